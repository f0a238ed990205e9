import Derived.Test.YtncnibkojneejaaGreatDoorDraw
import Derived.Test.YtncnibkojneejaaGreatDoorJa0
import Derived.Maps.AppendAt
import Derived.Test.YtncnibkojneejaaGreatDoorJa2
import Derived.Test.YtncnibkojneejaaGreatDoorJa3
import Derived.Deep.LoopGhost

/- Bytes that are drawn: l1Some; and l1Max. -/
namespace Go.Proofs.YtncnibkojneejaaGreatDoor
open Go.RowKit Go.Deep

theorem Win.grown {g : Nat} {w w' : World} (h : Win g (g + 1) w w') : w.grownBy w' (some g) :=
  ⟨h.os, h.tape, h.output, h.size, fun k hk hne => h.block k hk (by have : k ≠ g := fun e => hne (by rw [e]); omega)⟩
theorem Src.grown {w w' : World} {g : Nat} {A : Option Addr} {l : List Int} {c at_ : Nat} (h : Src w g A l c at_) {row : Option Nat} (hg : w.grownBy w' row) (hr : ∀ k, row = some k → g < k) : Src w' g A l c at_ := by
  have hlt := h.lt
  refine ⟨(hg.block g hlt (fun e => by have := hr g e.symm; omega)).trans h.blk, h.bytes, ?_, h.len⟩
  rcases h.row with h1 | ⟨b, off, h1, h2, h3⟩
  · exact .inl h1
  · exact .inr ⟨b, off, h1, h2, fun j hj => (World.cell?_of_block (a := ⟨b, off + j, none⟩) (hg.block b (by omega) (fun e => by have := hr b e.symm; omega))).trans (h3 j hj)⟩
/-- A write into a row that was not there at w is no write to what was there. -/
theorem Win.row {B C : Nat} {w a b : World} (h : Win B C w a) {row : Option Nat} (hg : a.grownBy b row) (hr : ∀ k, row = some k → w.heap.size ≤ k) : Win B C w b :=
  ⟨hg.os.trans h.os, hg.tape.trans h.tape, hg.output.trans h.output, Nat.le_trans h.size hg.size,
   fun k hk ho => (hg.block k (Nat.lt_of_lt_of_le hk h.size) (fun e => by have := hr k e.symm; omega)).trans (h.block k hk ho),
   fun q hq => (World.frozen?_of_block (hg.block q.block (Nat.lt_of_lt_of_le hq h.size) (fun e => by have := hr _ e.symm; omega))).trans (h.frozen q hq)⟩
theorem own_kept {w w' : World} {B g : Nat} {e : TypeId} {v : Value} {n : Nat} {xs : List Value} (h : w.ownsRow B e 1 v n xs) (hw : Win g (g + 1) w w') (hg : g < B) : w'.ownsRow B e 1 v n xs :=
  h.kept hw.grown (.inr (fun e => by have := h.lt g e; omega))
/-- Bytes that were drawn: a slice of bytes of the call's own. -/
def SomeRes (N : Nat) (w : World) (g : Nat) (A : Option Addr) (l : List Int) (c at_ : Nat) (e : Ending) (w' : World) : Prop :=
  ∃ (v : Value) (d : List Int) (at' : Nat), e = .returned v ∧ Bytes d ∧ d.length = N ∧ w'.ownsRow w.heap.size 5 1 v d.length (d.map (Value.int .u8)) ∧ Src w' g A l c at' ∧ at' ≤ at_ + N ∧ Win g (g + 1) w w'
theorem some_step {w wr w1 w2 : World} {g : Nat} {A : Option Addr} {l : List Int} {c at1 : Nat} {v v' : Value} {d : List Int} {x : Int} (hw : Win g (g + 1) w wr) (hg : g < w.heap.size) (hown : wr.ownsRow w.heap.size 5 1 v d.length (d.map (Value.int .u8)))
    (S1 : Src w1 g A l c at1) (W1 : Win g (g + 1) wr w1) (hown' : w2.ownsRow w.heap.size 5 1 v' (d.length + 1) (d.map (Value.int .u8) ++ [.int .u8 x])) (hgrow : (w1.alloc (.cells #[.int .u8 x] 5)).grownBy w2 v.ownBlock) :
    w2.ownsRow w.heap.size 5 1 v' (d ++ [x]).length ((d ++ [x]).map (Value.int .u8)) ∧ Src w2 g A l c at1 ∧ Win g (g + 1) w w2 := by
  have hb : Below w1.heap.size w1 (w1.alloc (.cells #[.int .u8 x] 5)) := bal (Below.refl _ _) _
  have hl := hown.lt
  refine ⟨by simpa using hown', (S1.below hb).grown hgrow (fun k hk => by have := hl k hk; omega), ((hw.trans W1).trans (Win.of_below hb)).row hgrow (fun k hk => (hl k hk).1)⟩
set_option maxHeartbeats 1000000 in
theorem some_any (N : Nat) (g : Nat) (A : Option Addr) (l : List Int) (c at_ : Nat) (w : World) (h : Src w g A l c at_) (hN : N ≤ 1000) (ha : (at_ : Int) ≤ 700000000) :
    Calls Tryz.prog 18 #[.pointer (some ⟨g, 0, none⟩), .int .i64 N] w (SomeRes N w g A l c at_) := by
  have hg := h.lt
  have H := hidH h
  clear h
  obtain ⟨i0, hi, hzz⟩ := Option.map_eq_some_iff.1 infoU8
  simp only [Prod.mk.injEq] at hzz
  obtain ⟨hz0, hz1, hz2⟩ := hzz
  go_enter Tryz.func18, Tryz.ntmps18
  go_wp2
  go_loopw [1, 5] (fun n v wr => ∃ (k : Nat) (d : List Int) (at1 : Nat), n = .int .i64 k ∧ Bytes d ∧ d.length + k = N ∧ wr.ownsRow w.heap.size 5 1 v d.length (d.map (Value.int .u8)) ∧ Src wr g A l c at1 ∧ at1 + k ≤ at_ + N ∧ Win g (g + 1) w wr) (fun n _ _ => (intOf n).toNat)
  case atStart => exact ⟨N, [], at_, rfl, fun x hx => by simp at hx, by simp, World.ownsRow_lit w #[] 0 (Nat.le_refl _) (by unfold maxLen; omega) rfl, H.out.below (bal (Below.refl _ _) _), Nat.le_refl _, Win.of_below (bal (Below.refl _ _) _)⟩
  case round =>
    obtain ⟨k, d, at1, rfl, hd, hdk, hown, hS, hat, hW⟩ := hrel
    rcases k with _ | k
    · have O := hidH hown
      have S := hidH hS
      have W := hidH hW
      have D := hidH hd
      have K := hidH hdk
      clear hown hS hW hd hdk hz0 hz1 hz2 hi
      go_wp2
      go_ret
      exact ⟨_, d, at1, rfl, D.out, K.out, O.out, S.out, by omega, W.out⟩
    · have hgt : (0 : Int) < ((k + 1 : Nat) : Int) := by omega
      have hsz := hW.size
      have K := hidH hdk
      have hdl : d.length ≤ 1000 := by omega
      clear hdk
      go_wp2_with fail
      refine (next_any _ _ _ _ _ _ _ hS (by omega)).mono ?_
      rintro e w1 ⟨x, rfl, x0, x1, S1, W1, z1⟩
      have hown1 := own_kept hown W1 hg
      have hsz1 := W1.size
      clear z1
      have hx : x ≤ 255 := by omega
      go_wp2_with (at_builtin; refine wpList_append_own _ rfl _ _ 22 rfl w.heap.size 5 i0 (.int .u8 0) 1 1 Tryz.underlying22 hi hz0 hz1 hz2 rfl (by decide) _ _ _ rfl (hown1.alloc _) ⟨w1.heap.size, 0, none⟩ 1 1 [.int .u8 x] rfl rfl ?c1 ?c2 ?c3 ?c4 ?c5 ?_)
      case c1 => exact cell_one_new _ _ _
      case c2 => intro u hu; simp at hu; subst hu; rfl
      case c3 => unfold maxLen; omega
      case c4 => omega
      case c5 => simp; omega
      intro v' w2 hown' hgrow _
      obtain ⟨O, S, W⟩ := some_step hW hg hown S1 W1 hown' hgrow
      have hD : Bytes (d ++ [x]) := fun y hy => by
        rcases List.mem_append.1 hy with h | h
        · exact hd y h
        · simp at h; subst h; exact ⟨x0, hx⟩
      have O' := hidH O
      have S' := hidH S
      have W' := hidH W
      have D' := hidH hD
      clear O S W hD hown hown1 hown' hgrow hS S1 W1 hW hd
      go_wp2
      go_roundw
      case rel => exact ⟨k, d ++ [x], at1 + 1, rfl, D'.out, by have := K.out; simp; omega, O'.out, S'.out, by omega, W'.out⟩
      case measure => simp [intOf]
theorem own_drewN {w : World} {B : Nat} {e : TypeId} {s : Nat} {v : Value} {n : Nat} {xs : List Value} (h : w.ownsRow B e s v n xs) (m : Nat) : (w.drewN m).ownsRow B e s v n xs := h
theorem own_grow {w wr w2 : World} {e : TypeId} {s n m : Nat} {v : Value} {xs : List Value} {o : Obj} (hB : Below w.heap.size w wr) (hown : wr.ownsRow w.heap.size e s v n xs) (hgrow : ((wr.drewN m).alloc o).grownBy w2 v.ownBlock) : Below w.heap.size w w2 :=
  (bal (below_drewN hB m) o).grown hgrow (bal (below_drewN hB m) o).size (fun k hk => (hown.lt k hk).1)
theorem own_mono {w : World} {B C : Nat} {e : TypeId} {s n : Nat} {v : Value} {xs : List Value} (h : w.ownsRow C e s v n xs) (hB : B ≤ C) : w.ownsRow B e s v n xs := by
  obtain ⟨h1, h2 | ⟨g, cap, cur, hv, hg, r⟩⟩ := h
  · exact ⟨h1, .inl h2⟩
  · exact ⟨h1, .inr ⟨g, cap, cur, hv, Nat.le_trans hB hg, r⟩⟩
end Go.Proofs.YtncnibkojneejaaGreatDoor

/- Bytes appended to a row of the call's own, the source nil, empty or not; copies of bytes (l1Copy). -/
namespace Go.Proofs.YtncnibkojneejaaGreatDoor
open Go.RowKit Go.Deep

theorem run_append_of_nil {P : Program} (w : World) (base : Nat) (t ty e : TypeId) (i : TypeInfo) (size : Nat) (ht : P.underlying t = some (.slice e)) (hi : P.info? e = some i)
    (v : Value) (n : Nat) (xs : List Value) (hown : w.ownsRow base e size v n xs) (c : Nat) : (Builtin.append_ #[t, t] ty #[v, .slice none 0 c]).run P w = .ok v w := by
  rcases hown.2 with ⟨rfl, rfl⟩ | ⟨g, cap, cur, rfl, _, _, hnc, _⟩
  · simp [Builtin.append_, run_underlying ht, sizeOf, typeInfo, hi, Builtin.lenOf, Builtin.firstCells]
  · simp [Builtin.append_, run_underlying ht, sizeOf, typeInfo, hi, Builtin.lenOf, Builtin.firstCells, hnc, storeCells]

/-- A block of bytes that was just laid. -/
theorem lit_bs (w : World) (t : TypeId) (l : List Int) : Bs (w.alloc (.cells (l.map (Value.int .u8)).toArray t)) (some ⟨w.heap.size, 0, none⟩) l :=
  .inr ⟨_, 0, rfl, by simp, fun j hj => by rw [Nat.zero_add, (Blk.new w t (l.map (Value.int .u8)).toArray).cell]; simp [hj]⟩
/-- append(own, src...), both of bytes. -/
theorem wpList_append_bs {w : World} {ops : Array Oper} {rest : List Oper} {o : Oper} {a : Act} {Q : Exit → Act → World → Prop} (hgd : o.guard = none) (s x : Operand)
    (ho : o.op = .call { callee := .builtin .append, args := #[s, x], argTypes := #[22, 22] })
    (base : Nat) (v : Value) (n : Nat) (xs : List Value) (hs : a.eval s = v) (hown : w.ownsRow base 5 1 v n xs)
    (A : Option Addr) (l : List Int) (c : Nat) (hx : a.eval x = .slice A l.length c) (hA : Bs w A l) (hm : n + l.length ≤ 4000000) (hbase : base ≤ w.heap.size)
    (h : ∀ v' w', w'.ownsRow base 5 1 v' (n + l.length) (xs ++ l.map (Value.int .u8)) → w.grownBy w' v.ownBlock → wpList Tryz.prog ops Q rest (a.put o.dst v') w') : wpList Tryz.prog ops Q (o :: rest) a w := by
  obtain ⟨i0, hi, hzz⟩ := Option.map_eq_some_iff.1 infoU8
  simp only [Prod.mk.injEq] at hzz
  obtain ⟨hz0, hz1, hz2⟩ := hzz
  have h63 : n + l.length ≤ maxLen := by unfold maxLen; omega
  have hbytes : (n + l.length) * 1 ≤ 140737488355328 := by omega
  have hone : ∀ u ∈ l.map (Value.int .u8), u.oneCell' = true := fun u hu => by simp at hu; obtain ⟨y, _, rfl⟩ := hu; rfl
  rcases hA with rfl | ⟨b, off, rfl, hb, hA⟩
  · rcases A with _ | ad
    · refine wpList_plain hgd fun K hK => ?_
      have hrun := run_append_of_nil (P := Tryz.prog) w base 22 o.type 5 i0 1 Tryz.underlying22 hi v n xs hown c
      have hx' : a.eval x = .slice none 0 c := hx
      unfold Oper.wp
      simp [execOp, ho, resolve, invoke, builtin, hs, hx', hrun, Result.andThen]
      exact hK _ _ (h v w (by simpa using hown) (World.grownBy.refl w _))
    · exact wpList_append_own w hgd s x 22 ho base 5 i0 (.int .u8 0) 1 1 Tryz.underlying22 hi hz0 hz1 hz2 rfl (by decide) v n xs hs hown ad 0 c [] hx rfl (fun j u hu => by simp at hu) (fun u hu => by simp at hu) h63 hbytes hbase (fun v' w' h1 h2 _ => h v' w' h1 h2)
  · exact wpList_append_own w hgd s x 22 ho base 5 i0 (.int .u8 0) 1 1 Tryz.underlying22 hi hz0 hz1 hz2 rfl (by decide) v n xs hs hown ⟨b, off, none⟩ l.length c (l.map (Value.int .u8)) hx (by simp) (fun j u hu => by
        have hj : j < l.length := by
          rcases Nat.lt_or_ge j l.length with h | h
          · exact h
          · rw [List.getElem?_eq_none (by simpa using h)] at hu; cases hu
        have hadd : (⟨b, off, none⟩ : Addr).add j = ⟨b, off + j, none⟩ := by unfold Addr.add; split <;> simp_all
        rw [hadd, hA j hj, ← hu]; simp [hj]) hone h63 hbytes hbase (fun v' w' h1 h2 _ => h v' w' h1 h2)
theorem bs_grown {w w' : World} {B : Nat} {A : Option Addr} {l : List Int} (h : Bs w A l) {row : Option Nat} (hg : w.grownBy w' row) (hr : ∀ k, row = some k → B ≤ k) (ho : ∀ b off, A = some ⟨b, off, none⟩ → b < B ∨ l = []) : Bs w' A l := by
  rcases h with h | ⟨b, off, h1, h2, h3⟩
  · exact .inl h
  · rcases ho b off h1 with hb | hb
    · exact .inr ⟨b, off, h1, Nat.lt_of_lt_of_le h2 hg.size, fun j hj => (World.cell?_of_block (a := ⟨b, off + j, none⟩) (hg.block b h2 (fun e => by have := hr b e.symm; omega))).trans (h3 j hj)⟩
    · exact .inl hb
/-- Bytes of the call's own come back; what was there has not turned. -/
def OwnB (w : World) (l : List Int) (e : Ending) (w' : World) : Prop :=
  ∃ v, e = .returned v ∧ w'.ownsRow w.heap.size 5 1 v l.length (l.map (Value.int .u8)) ∧ Below w.heap.size w w'
set_option maxHeartbeats 1000000 in
theorem copy_any (A : Option Addr) (l : List Int) (c : Nat) (w : World) (hA : Bs w A l) (hm : l.length ≤ 4000000) :
    Calls Tryz.prog 64 #[.slice A l.length c] w (OwnB w l) := by
  have hown : (w.alloc (.cells #[] 5)).ownsRow w.heap.size 5 1 (.slice (some ⟨w.heap.size, 0, none⟩) 0 0) 0 [] := World.ownsRow_lit w #[] 0 (Nat.le_refl _) (by unfold maxLen; omega) rfl
  have hA2 := bs_below hA (bal (Below.refl _ w) (.cells #[] 5))
  have HO := hidH hown
  have HA := hidH hA2
  have hb2 := hidH (bal (Below.refl _ w) (.cells #[] 5))
  clear hown hA2 hA
  go_enter Tryz.func64, Tryz.ntmps64
  go_wp2_with (at_builtin; refine wpList_append_bs rfl _ _ rfl w.heap.size _ _ _ rfl HO.out A l c rfl HA.out (by omega) (by simp) ?_)
  intro v' w2 hown' hgrow
  have B2 := hidH (hb2.out.grown hgrow (by simp) (fun k hk => by simp [Value.ownBlock] at hk; omega))
  have O2 := hidH hown'
  clear hown' hgrow
  go_wp2
  go_ret
  exact ⟨_, rfl, by simpa using O2.out, B2.out⟩
end Go.Proofs.YtncnibkojneejaaGreatDoor

/- The drawn arguments of WordAt: some bytes and some number. -/
namespace Go.Proofs.YtncnibkojneejaaGreatDoor
open Go.RowKit Go.Deep
theorem own_ob {w : World} {B : Nat} {v : Value} {d : List Int} (h : w.ownsRow B 5 1 v d.length (d.map (Value.int .u8))) :
    ∃ A cp, v = .slice A d.length cp ∧ Ob B w.heap.size w A d ∧ d.length ≤ cp ∧ (cp : Int) ≤ 9223372036854775807 := by
  have hc := fun g hg => h.cells (g := g) hg
  have hl := h.lt
  obtain ⟨_, ⟨rfl, hn⟩ | ⟨g, cap, cur, rfl, hg, hblk, hnc, hm, _, _⟩⟩ := h
  · have : d = [] := List.eq_nil_of_length_eq_zero hn
    subst this
    exact ⟨none, 0, rfl, .inl rfl, Nat.le_refl _, by omega⟩
  · unfold maxLen at hm
    refine ⟨_, cap, rfl, .inr ⟨g, 0, rfl, hg, (hl g rfl).2, Nat.le_refl _, fun j hj => ⟨?_, ?_⟩⟩, hnc, by omega⟩
    · have h1 := hc g rfl j (.int .u8 (d.getD j 0)) (by simp [hj])
      rw [Nat.zero_add, ← h1]
      rcases j with _ | j <;> simp [Addr.add]
    · simp [World.frozen?, hblk]
/-- Some bytes and some number come back. -/
def WAt (w : World) (e : Ending) (w' : World) : Prop :=
  ∃ A cp d n, e = .returned (.tuple #[.slice A (d : List Int).length cp, .int .i64 n]) ∧ Bs w' A d ∧ Bytes d ∧ d.length ≤ cp ∧ (cp : Int) ≤ 9223372036854775807 ∧ d.length ≤ 1000 ∧ Below w.heap.size w w'
end Go.Proofs.YtncnibkojneejaaGreatDoor

/- What WordAt answers, the program's and the model's. -/
namespace Go.Proofs.YtncnibkojneejaaGreatDoor
open Go.RowKit Go.Deep

theorem or_sum (k : Nat) (hi lo : Nat) (h : lo < 2 ^ k) : (hi * 2 ^ k) ||| lo = hi * 2 ^ k + lo := by
  rw [Nat.mul_comm, Nat.two_pow_add_eq_or_of_lt h]
theorem or4 (a b c d : Nat) (ha : a < 256) (hb : b < 256) (hc : c < 256) (hd : d < 256) :
    bits BinOp.or IntKind.u32 (bits BinOp.or IntKind.u32 (bits BinOp.or IntKind.u32 ((a : Int) * 16777216) ((b : Int) * 65536)) ((c : Int) * 256)) (d : Int) = (a : Int) * 16777216 + (b : Int) * 65536 + (c : Int) * 256 + (d : Int) := by
  have e1 : ((a : Int) * 16777216) = ((a * 16777216 : Nat) : Int) := by simp
  have e2 : ((b : Int) * 65536) = ((b * 65536 : Nat) : Int) := by simp
  have e3 : ((c : Int) * 256) = ((c * 256 : Nat) : Int) := by simp
  have s1 := or_sum 24 a (b * 65536) (by omega)
  have s2 := or_sum 16 (a * 256 + b) (c * 256) (by omega)
  have s3 := or_sum 8 ((a * 256 + b) * 256 + c) d (by omega)
  rw [e1, e2, e3, u32_or_nat _ _ (by omega) (by omega), show a * 16777216 ||| b * 65536 = (a * 256 + b) * 2 ^ 16 from by rw [show a * 16777216 = a * 2 ^ 24 from by omega, s1]; omega,
    u32_or_nat _ _ (by omega) (by omega), s2, show (a * 256 + b) * 2 ^ 16 + c * 256 = ((a * 256 + b) * 256 + c) * 2 ^ 8 from by omega, u32_or_nat _ _ (by omega) (by omega), s3]
  omega
set_option maxHeartbeats 400000 in
theorem decode_any (a b c d : Int) (w : World) (a0 : 0 ≤ a) (a1 : a ≤ 255) (b0 : 0 ≤ b) (b1 : b ≤ 255) (c0 : 0 ≤ c) (c1 : c ≤ 255) (d0 : 0 ≤ d) (d1 : d ≤ 255) :
    Calls Tryz.prog 109 #[.agg #[.int .u8 a, .int .u8 b, .int .u8 c, .int .u8 d]] w fun e w' => e = .returned (.int .u32 (a * 16777216 + b * 65536 + c * 256 + d)) ∧ Below w.heap.size w w' := by
  go_enter Tryz.func109, Tryz.ntmps109
  go_wp2
  go_ret
  refine ⟨ret_int ?_, bal (Below.refl _ _) _⟩
  have h := or4 a.toNat b.toNat c.toNat d.toNat (by omega) (by omega) (by omega) (by omega)
  rw [show ((a.toNat : Nat) : Int) = a from by omega, show ((b.toNat : Nat) : Int) = b from by omega, show ((c.toNat : Nat) : Int) = c from by omega, show ((d.toNat : Nat) : Int) = d from by omega] at h
  exact h
/-- The word in the four bytes from at on. -/
def atW (l : List Int) (k : Nat) : Int := l.getD k 0 * 16777216 + l.getD (k + 1) 0 * 65536 + l.getD (k + 2) 0 * 256 + l.getD (k + 3) 0
def atC (l : List Int) (n : Int) : Int := if 0 ≤ n ∧ n ≤ (l.length : Int) - 4 then 0 else 3
def atV (l : List Int) (n : Int) : Int := if 0 ≤ n ∧ n ≤ (l.length : Int) - 4 then atW l n.toNat else 0
set_option maxHeartbeats 1000000 in
theorem l1At_any (b off n c : Nat) (k : Nat) (p q r s : Int) (w : World) (hc : k + 4 ≤ n) (hm : (n : Int) ≤ 9223372036854775807)
    (hp : w.cell? ⟨b, off + k, none⟩ = some (.int .u8 p)) (hq : w.cell? ⟨b, off + (k + 1), none⟩ = some (.int .u8 q)) (hr : w.cell? ⟨b, off + (k + 2), none⟩ = some (.int .u8 r)) (hs : w.cell? ⟨b, off + (k + 3), none⟩ = some (.int .u8 s))
    (p0 : 0 ≤ p) (p1 : p ≤ 255) (q0 : 0 ≤ q) (q1 : q ≤ 255) (r0 : 0 ≤ r) (r1 : r ≤ 255) (s0 : 0 ≤ s) (s1 : s ≤ 255) :
    Calls Tryz.prog 99 #[.slice (some ⟨b, off, none⟩) n c, .int .i64 k] w fun e w' => e = .returned (.int .i64 (p * 16777216 + q * 65536 + r * 256 + s)) ∧ ∃ m, w.drewN m = w' := by
  have i1 : IntKind.i64.wrap ((k : Int) + 1) = (k : Int) + 1 := IntWalk.i64_in _ (by omega)
  have i2 : IntKind.i64.wrap ((k : Int) + 2) = (k : Int) + 2 := IntWalk.i64_in _ (by omega)
  have i3 : IntKind.i64.wrap ((k : Int) + 3) = (k : Int) + 3 := IntWalk.i64_in _ (by omega)
  have t1 : ((k : Int) + 1).toNat = k + 1 := by omega
  have t2 : ((k : Int) + 2).toNat = k + 2 := by omega
  have t3 : ((k : Int) + 3).toNat = k + 3 := by omega
  have b0 : (k : Int) < (n : Int) := by omega
  have b1 : (k : Int) + 1 < (n : Int) := by omega
  have b2 : (k : Int) + 2 < (n : Int) := by omega
  have b3 : (k : Int) + 3 < (n : Int) := by omega
  have g1 : 0 ≤ (k : Int) + 1 := by omega
  have g2 : 0 ≤ (k : Int) + 2 := by omega
  have g3 : 0 ≤ (k : Int) + 3 := by omega
  go_enter Tryz.func99, Tryz.ntmps99
  go_wp2
  go_quiet (fail)
  go_wp2
  go_ret
  exact ⟨rfl, _, rfl⟩
end Go.Proofs.YtncnibkojneejaaGreatDoor

/- The model's chunks: l1Pair, l1PairAt, ChunkFault. -/
namespace Go.Proofs.YtncnibkojneejaaGreatDoor
open Go.RowKit Go.Deep

theorem own_below0 {w w' : World} {B : Nat} {e : TypeId} {s n : Nat} {v : Value} {xs : List Value} (h : w.ownsRow B e s v n xs) (hb : Below w.heap.size w w') : w'.ownsRow B e s v n xs := by
  obtain ⟨h1, h2 | ⟨g, cap, cur, h3, h4, h5, h6⟩⟩ := h
  · exact ⟨h1, .inl h2⟩
  · exact ⟨h1, .inr ⟨g, cap, cur, h3, h4, (hb.block g (Array.getElem?_eq_some_iff.1 h5).1).trans h5, h6⟩⟩
theorem lit_bs2 {w : World} {g : Nat} {t : TypeId} {x y : Int} (h : Blk w g t #[.int .u8 x, .int .u8 y]) : Bs w (some ⟨g, 0, none⟩) [x, y] :=
  .inr ⟨g, 0, rfl, h.lt, fun j hj => by
    rw [Nat.zero_add, h.cell]
    match j, hj with
    | 0, _ => rfl
    | 1, _ => rfl⟩
theorem win_set (w : World) (g o : Nat) (u : Value) : Win g (g + 1) w (w.setCell ⟨g, o, none⟩ u) :=
  ⟨rfl, rfl, rfl, by simp [World.setCell], fun k _ ho => Below.heap_setCell _ _ _ _ (by show k ≠ g; omega), fun _ _ => World.frozen?_setCell _ _ _ _⟩
/-- A chunk's value. -/
def ckV (k f : Int) (A : Option Addr) (n c : Nat) : Value := .agg #[.int .i64 k, .int .i64 f, .slice A n c]
def chF (k f : Int) (b : List Int) : Int := if inB k 0 255 && inB f 0 255 then (if b.length ≤ 160 then 0 else 2) else 3
/-- A chunk's bytes: its head, its body, noughts to whole words. -/
def chPad (n : Nat) : Nat := (4 - n % 4) % 4
def chL (k f : Int) (b : List Int) : List Int := [k, f, ((b.length : Int) + 4) / 256, ((b.length : Int) + 4) % 256] ++ b ++ List.replicate (chPad b.length) 0
theorem chL_len (k f : Int) (b : List Int) : (chL k f b).length = 4 + b.length + chPad b.length := by simp [chL]; omega
/-- A chunk in memory: three cells from offset o of block g on, and its body. -/
structure CkB (w : World) (g o : Nat) (k f : Int) (A : Option Addr) (b : List Int) (c : Nat) : Prop where
  lt : g < w.heap.size
  c0 : w.cell? ⟨g, o, none⟩ = some (.int .i64 k)
  c1 : w.cell? ⟨g, o + 1, none⟩ = some (.int .i64 f)
  c2 : w.cell? ⟨g, o + 2, none⟩ = some (.slice A b.length c)
  body : Bs w A b
theorem CkB.below {w w' : World} {B g o : Nat} {k f : Int} {A : Option Addr} {b : List Int} {c : Nat} (h : CkB w g o k f A b c) (hb : Below B w w') (hB : w.heap.size ≤ B := by first | exact Nat.le_refl _ | assumption) : CkB w' g o k f A b c :=
  have hb' : Below w.heap.size w w' := hb.mono hB
  ⟨Nat.lt_of_lt_of_le h.lt hb'.size, (hb'.cell (p := ⟨g, o, none⟩) h.lt).trans h.c0, (hb'.cell (p := ⟨g, o + 1, none⟩) h.lt).trans h.c1, (hb'.cell (p := ⟨g, o + 2, none⟩) h.lt).trans h.c2, bs_below h.body hb'⟩
set_option maxHeartbeats 400000 in
theorem pair_any (n : Int) (w : World) (h0 : 0 ≤ n) (h1 : n < 65536) :
    Calls Tryz.prog 62 #[.int .i64 n] w fun e w' => e = .returned (.slice (some ⟨w.heap.size, 0, none⟩) 2 2) ∧ w.alloc (.cells #[.int .u8 (n / 256), .int .u8 (n % 256)] 5) = w' := by
  go_enter Tryz.func62, Tryz.ntmps62
  go_wp2
  go_ret
  exact ⟨rfl, rfl⟩
set_option maxHeartbeats 1000000 in
theorem chFault_spec (k f : Int) (A : Option Addr) (b : List Int) (c : Nat) (w : World) (hm : (b.length : Int) ≤ 9223372036854775807) :
    Calls Tryz.prog 55 #[ckV k f A b.length c] w fun e w' => e = .returned (.int .i64 (chF k f b)) ∧ Below w.heap.size w w' := by
  unfold ckV
  by_cases h1 : inB k 0 255 = true
  · by_cases h2 : inB f 0 255 = true
    · by_cases h3 : b.length ≤ 160
      · have e : chF k f b = 0 := by simp [chF, h1, h2, h3]
        have h4 : (b.length : Int) ≤ 160 := by omega
        rw [e]
        clear e h3
        go_enter Tryz.func55, Tryz.ntmps55
        go_wp2_with (go_at_call 52; refine (in_any _ _ _ _).mono ?_; rintro e w' ⟨rfl, rfl⟩)
        go_ret
        exact ⟨rfl, bal (Below.refl _ _) _⟩
      · have e : chF k f b = 2 := by simp [chF, h1, h2, h3]
        have h4 : (160 : Int) < (b.length : Int) := by omega
        rw [e]
        clear e h3
        go_enter Tryz.func55, Tryz.ntmps55
        go_wp2_with (go_at_call 52; refine (in_any _ _ _ _).mono ?_; rintro e w' ⟨rfl, rfl⟩)
        go_ret
        exact ⟨rfl, bal (Below.refl _ _) _⟩
    · have h2 : inB f 0 255 = false := by simpa using h2
      have e : chF k f b = 3 := by simp [chF, h1, h2]
      rw [e]
      clear e
      go_enter Tryz.func55, Tryz.ntmps55
      go_wp2_with (go_at_call 52; refine (in_any _ _ _ _).mono ?_; rintro e w' ⟨rfl, rfl⟩)
      go_ret
      exact ⟨rfl, bal (Below.refl _ _) _⟩
  · have h1 : inB k 0 255 = false := by simpa using h1
    have e : chF k f b = 3 := by simp [chF, h1]
    rw [e]
    clear e
    go_enter Tryz.func55, Tryz.ntmps55
    go_wp2_with (go_at_call 52; refine (in_any _ _ _ _).mono ?_; rintro e w' ⟨rfl, rfl⟩)
    go_ret
    exact ⟨rfl, bal (Below.refl _ _) _⟩
end Go.Proofs.YtncnibkojneejaaGreatDoor

/- Chapter 5 on numbers: data. -/
namespace Go.Proofs.YtncnibkojneejaaGreatDoor
open Go.RowKit Go.Deep

theorem bsOf {w : World} {l : List Int} {A : Option Addr} {n c : Nat} (h : Rd w (.bs l) (.slice A n c)) : Bs w A l := by
  obtain ⟨A', c', e, _, hb⟩ := h.bs_out
  injection e with e1 e2 e3
  subst e1
  exact hb
def pairL (n : Int) : List Int := [n / 256, n % 256]
def bitN (b : Bool) (k : Int) : Int := if b then k else 0
/-- The fault of a data, its chunk, PackData's answer. -/
def pdF (y : DataM) : Int := if wB y.Tsn && inB y.Stream 0 9 && inB y.Seq 0 65535 then (if 1 ≤ y.Piece.length ∧ y.Piece.length ≤ 100 then (if y.Unordered = true ∧ y.Seq ≠ 0 then 1 else 0) else 2) else 3
def pdC (y : DataM) : ChunkM := ⟨0, bitN y.Last 1 + bitN y.First 2 + bitN y.Unordered 4, pk y.Tsn ++ pairL y.Stream ++ pairL y.Seq ++ y.Piece⟩
def crOf (f : Int) (c : ChunkM) : ChunkResultM := if f = 0 then ⟨0, c.Kind, c.Flags, c.Body⟩ else ⟨f, 0, 0, []⟩
def pdR (y : DataM) : ChunkResultM := crOf (pdF y) (pdC y)
theorem pdF_zero {y : DataM} (h : pdF y = 0) : (0 ≤ y.Tsn ∧ y.Tsn ≤ 4294967295) ∧ (0 ≤ y.Stream ∧ y.Stream ≤ 9) ∧ (0 ≤ y.Seq ∧ y.Seq ≤ 65535) ∧ 1 ≤ y.Piece.length ∧ y.Piece.length ≤ 100 := by
  unfold pdF wB inB at h
  split at h
  · next h1 =>
    simp at h1
    split at h
    · next h2 => exact ⟨h1.1.1, h1.1.2, h1.2, h2.1, h2.2⟩
    · cases h
  · cases h
/-- A chunk is just the one that was made. -/
def isM (x : ChunkM) (z : ChunkResultM) : Bool := z.Code == 0 && x.Kind == z.Chunk_Kind && x.Flags == z.Chunk_Flags && x.Body == z.Chunk_Body
theorem pdR_len (y : DataM) (_ : WfA y.vs) (h : tot.totL y.vs ≤ 1048576) : vcA (pdR y).vs ≤ 1000000000 := by
  simp only [DataM.vs, tot.totL, tot] at h
  unfold pdR crOf
  split
  · simp [ChunkResultM.vs, vcA, vc, cc, pdC, pk, pairL]; omega
  · simp [ChunkResultM.vs, vcA, vc, cc]
end Go.Proofs.YtncnibkojneejaaGreatDoor

/- Chapter 5 on numbers: answers; the model's l5AnswerFault, l5Bytes. -/
namespace Go.Proofs.YtncnibkojneejaaGreatDoor
open Go.RowKit Go.Deep

def okCs (l : List Int) : Prop := ∀ j, j < l.length → inB (l.getD j 0) 0 20 = true
instance (l : List Int) : Decidable (okCs l) := by unfold okCs; exact Nat.decidableBallLT l.length (fun j _ => inB (l.getD j 0) 0 20 = true)
def paF (y : AnswerM) : Int := if wB y.Serial then (if 1 ≤ y.Codes.length ∧ y.Codes.length ≤ 4 then (if okCs y.Codes then 0 else 3) else 2) else 3
def paC (y : AnswerM) : ChunkM := ⟨128, 0, pk y.Serial ++ ((y.Codes.length : Int) :: y.Codes)⟩
def paR (y : AnswerM) : ChunkResultM := crOf (paF y) (paC y)
theorem paR_len (y : AnswerM) (_ : WfA y.vs) (h : tot.totL y.vs ≤ 1048576) : vcA (paR y).vs ≤ 1000000000 := by
  simp only [AnswerM.vs, tot.totL, tot] at h
  unfold paR crOf
  split
  · simp [ChunkResultM.vs, vcA, vc, cc, paC, pk]; omega
  · simp [ChunkResultM.vs, vcA, vc, cc]
theorem paF_zero {y : AnswerM} (h : paF y = 0) : (0 ≤ y.Serial ∧ y.Serial ≤ 4294967295) ∧ (1 ≤ y.Codes.length ∧ y.Codes.length ≤ 4) ∧ okCs y.Codes := by
  unfold paF wB inB at h
  split at h
  · next h1 =>
    simp at h1
    split at h
    · next h2 =>
      split at h
      · next h3 => exact ⟨h1, h2, h3⟩
      · cases h
    · cases h
  · cases h
theorem isOf {w : World} {l : List Int} {A : Option Addr} {n c : Nat} (h : Rd w (.is l) (.slice A n c)) : Is w A l := by
  obtain ⟨A', c', e, _, hb⟩ := h.is_out
  injection e with e1 e2 e3
  subst e1
  exact hb
end Go.Proofs.YtncnibkojneejaaGreatDoor

/- Sack, Asconf and their results (WRITTEN BY tools/kinds.py) -/
namespace Go.Proofs.YtncnibkojneejaaGreatDoor
open Go.RowKit Go.Deep Go.ChangeShapes Go.WideShapes Go.ChangeAt

structure GapM where
  From : Int
  To : Int
def GapM.vs (x : GapM) : List V := [.int x.From, .int x.To]
theorem shape_Gap {w : World} {n0 : Int} {n1 : Int} {vs : List Value} (h : RdA w [.int n0, .int n1] vs) : vs = [.int .i64 n0, .int .i64 n1] := by
  obtain ⟨q0, e0, t0⟩ := h.int_out
  subst e0
  obtain ⟨q1, e1, t1⟩ := t0.int_out
  subst e1
  have z := t1.nil_out
  subst z
  exact rfl
theorem mem_Gap {w : World} {g o : Nat} {y : GapM} (h : RdL w y.vs g o) : w.cell? ⟨g, o, none⟩ = some (.int .i64 y.From) ∧ w.cell? ⟨g, o + 1, none⟩ = some (.int .i64 y.To) := by
  obtain ⟨u0, p0, t0⟩ := h.get? 0 (.int y.From) rfl
  have e0 := t0.int_out
  subst e0
  obtain ⟨u1, p1, t1⟩ := h.get? 1 (.int y.To) rfl
  have e1 := t1.int_out
  subst e1
  rw [Nat.add_zero] at p0
  exact ⟨p0, p1⟩
def st_Gap (r : List GapM) : V := .st r.length (r.flatMap GapM.vs)
theorem st_Gap_sh {w : World} {r : List GapM} {v : Value} (h : Rd w (st_Gap r) v) : ∃ A c, v = .slice A r.length c := Rd.st_sh h
theorem ccS_Gap (r : List GapM) : cc.ccL (r.flatMap GapM.vs) ≤ 3 * (r.length + tot.totL (r.flatMap GapM.vs)) := by
  induction r with
  | nil => simp [cc.ccL]
  | cons x xs ih =>
    rw [List.flatMap_cons, ccL_append, totL_append, List.length_cons]
    have : cc.ccL (GapM.vs x) ≤ 3 * (1 + tot.totL (GapM.vs x)) := by
      simp only [GapM.vs, cc.ccL, cc, tot.totL, tot]
      omega
    omega
structure SackM where
  Cum : Int
  Gaps : List GapM
def SackM.vs (x : SackM) : List V := [.int x.Cum, st_Gap x.Gaps]
theorem shape_Sack {w : World} {n0 : Int} {r1 : List GapM} {vs : List Value} (h : RdA w [.int n0, st_Gap r1] vs) : ∃ (A1 : Option Addr) (c1 : Nat), vs = [.int .i64 n0, .slice A1 r1.length c1] := by
  obtain ⟨q0, e0, t0⟩ := h.int_out
  subst e0
  obtain ⟨v1, q1, e1, h1, t1⟩ := t0.any_out
  obtain ⟨A1, c1, a1⟩ := st_Gap_sh h1
  subst e1 a1
  have z := t1.nil_out
  subst z
  exact ⟨A1, c1, rfl⟩
theorem cnt_Sack (y : SackM) (h : tot.totL y.vs ≤ 1048576) : vcA y.vs ≤ 1000000000 := by
  have cGap := ccS_Gap
  simp only [SackM.vs, vcA, vc, tot.totL, tot, cc, st_Gap] at *
  have d1 := cGap y.Gaps
  omega
theorem mem_Sack {w : World} {g o : Nat} {y : SackM} (h : RdL w y.vs g o) : ∃ (A1 : Option Addr) (c1 : Nat), w.cell? ⟨g, o, none⟩ = some (.int .i64 y.Cum) ∧ w.cell? ⟨g, o + 1, none⟩ = some (.slice A1 y.Gaps.length c1) ∧ Rd w (st_Gap y.Gaps) (.slice A1 y.Gaps.length c1) := by
  obtain ⟨u0, p0, t0⟩ := h.get? 0 (.int y.Cum) rfl
  have e0 := t0.int_out
  subst e0
  obtain ⟨u1, p1, t1⟩ := h.get? 1 (st_Gap y.Gaps) rfl
  obtain ⟨A1, c1, e1⟩ := st_Gap_sh t1
  subst e1
  rw [Nat.add_zero] at p0
  exact ⟨A1, c1, p0, p1, t1⟩
structure SackResultM where
  Code : Int
  Sack_Cum : Int
  Sack_Gaps : List GapM
def SackResultM.vs (x : SackResultM) : List V := [.int x.Code, .int x.Sack_Cum, st_Gap x.Sack_Gaps]
theorem shape_SackResult {w : World} {n0 : Int} {n1 : Int} {r2 : List GapM} {vs : List Value} (h : RdA w [.int n0, .int n1, st_Gap r2] vs) : ∃ (A2 : Option Addr) (c2 : Nat), vs = [.int .i64 n0, .int .i64 n1, .slice A2 r2.length c2] := by
  obtain ⟨q0, e0, t0⟩ := h.int_out
  subst e0
  obtain ⟨q1, e1, t1⟩ := t0.int_out
  subst e1
  obtain ⟨v2, q2, e2, h2, t2⟩ := t1.any_out
  obtain ⟨A2, c2, a2⟩ := st_Gap_sh h2
  subst e2 a2
  have z := t2.nil_out
  subst z
  exact ⟨A2, c2, rfl⟩
theorem cnt_SackResult (y : SackResultM) (h : tot.totL y.vs ≤ 1048576) : vcA y.vs ≤ 1000000000 := by
  have cGap := ccS_Gap
  simp only [SackResultM.vs, vcA, vc, tot.totL, tot, cc, st_Gap] at *
  have d2 := cGap y.Sack_Gaps
  omega
theorem mem_SackResult {w : World} {g o : Nat} {y : SackResultM} (h : RdL w y.vs g o) : ∃ (A2 : Option Addr) (c2 : Nat), w.cell? ⟨g, o, none⟩ = some (.int .i64 y.Code) ∧ w.cell? ⟨g, o + 1, none⟩ = some (.int .i64 y.Sack_Cum) ∧ w.cell? ⟨g, o + 2, none⟩ = some (.slice A2 y.Sack_Gaps.length c2) ∧ Rd w (st_Gap y.Sack_Gaps) (.slice A2 y.Sack_Gaps.length c2) := by
  obtain ⟨u0, p0, t0⟩ := h.get? 0 (.int y.Code) rfl
  have e0 := t0.int_out
  subst e0
  obtain ⟨u1, p1, t1⟩ := h.get? 1 (.int y.Sack_Cum) rfl
  have e1 := t1.int_out
  subst e1
  obtain ⟨u2, p2, t2⟩ := h.get? 2 (st_Gap y.Sack_Gaps) rfl
  obtain ⟨A2, c2, e2⟩ := st_Gap_sh t2
  subst e2
  rw [Nat.add_zero] at p0
  exact ⟨A2, c2, p0, p1, p2, t2⟩
structure AddrOpM where
  Kind : Int
  Addr : Int
def AddrOpM.vs (x : AddrOpM) : List V := [.int x.Kind, .int x.Addr]
theorem shape_AddrOp {w : World} {n0 : Int} {n1 : Int} {vs : List Value} (h : RdA w [.int n0, .int n1] vs) : vs = [.int .i64 n0, .int .i64 n1] := by
  obtain ⟨q0, e0, t0⟩ := h.int_out
  subst e0
  obtain ⟨q1, e1, t1⟩ := t0.int_out
  subst e1
  have z := t1.nil_out
  subst z
  exact rfl
theorem mem_AddrOp {w : World} {g o : Nat} {y : AddrOpM} (h : RdL w y.vs g o) : w.cell? ⟨g, o, none⟩ = some (.int .i64 y.Kind) ∧ w.cell? ⟨g, o + 1, none⟩ = some (.int .i64 y.Addr) := by
  obtain ⟨u0, p0, t0⟩ := h.get? 0 (.int y.Kind) rfl
  have e0 := t0.int_out
  subst e0
  obtain ⟨u1, p1, t1⟩ := h.get? 1 (.int y.Addr) rfl
  have e1 := t1.int_out
  subst e1
  rw [Nat.add_zero] at p0
  exact ⟨p0, p1⟩
def st_AddrOp (r : List AddrOpM) : V := .st r.length (r.flatMap AddrOpM.vs)
theorem st_AddrOp_sh {w : World} {r : List AddrOpM} {v : Value} (h : Rd w (st_AddrOp r) v) : ∃ A c, v = .slice A r.length c := Rd.st_sh h
theorem ccS_AddrOp (r : List AddrOpM) : cc.ccL (r.flatMap AddrOpM.vs) ≤ 3 * (r.length + tot.totL (r.flatMap AddrOpM.vs)) := by
  induction r with
  | nil => simp [cc.ccL]
  | cons x xs ih =>
    rw [List.flatMap_cons, ccL_append, totL_append, List.length_cons]
    have : cc.ccL (AddrOpM.vs x) ≤ 3 * (1 + tot.totL (AddrOpM.vs x)) := by
      simp only [AddrOpM.vs, cc.ccL, cc, tot.totL, tot]
      omega
    omega
structure AsconfM where
  Serial : Int
  Ops : List AddrOpM
def AsconfM.vs (x : AsconfM) : List V := [.int x.Serial, st_AddrOp x.Ops]
theorem shape_Asconf {w : World} {n0 : Int} {r1 : List AddrOpM} {vs : List Value} (h : RdA w [.int n0, st_AddrOp r1] vs) : ∃ (A1 : Option Addr) (c1 : Nat), vs = [.int .i64 n0, .slice A1 r1.length c1] := by
  obtain ⟨q0, e0, t0⟩ := h.int_out
  subst e0
  obtain ⟨v1, q1, e1, h1, t1⟩ := t0.any_out
  obtain ⟨A1, c1, a1⟩ := st_AddrOp_sh h1
  subst e1 a1
  have z := t1.nil_out
  subst z
  exact ⟨A1, c1, rfl⟩
theorem cnt_Asconf (y : AsconfM) (h : tot.totL y.vs ≤ 1048576) : vcA y.vs ≤ 1000000000 := by
  have cAddrOp := ccS_AddrOp
  simp only [AsconfM.vs, vcA, vc, tot.totL, tot, cc, st_AddrOp] at *
  have d1 := cAddrOp y.Ops
  omega
theorem mem_Asconf {w : World} {g o : Nat} {y : AsconfM} (h : RdL w y.vs g o) : ∃ (A1 : Option Addr) (c1 : Nat), w.cell? ⟨g, o, none⟩ = some (.int .i64 y.Serial) ∧ w.cell? ⟨g, o + 1, none⟩ = some (.slice A1 y.Ops.length c1) ∧ Rd w (st_AddrOp y.Ops) (.slice A1 y.Ops.length c1) := by
  obtain ⟨u0, p0, t0⟩ := h.get? 0 (.int y.Serial) rfl
  have e0 := t0.int_out
  subst e0
  obtain ⟨u1, p1, t1⟩ := h.get? 1 (st_AddrOp y.Ops) rfl
  obtain ⟨A1, c1, e1⟩ := st_AddrOp_sh t1
  subst e1
  rw [Nat.add_zero] at p0
  exact ⟨A1, c1, p0, p1, t1⟩
structure AsconfResultM where
  Code : Int
  Asconf_Serial : Int
  Asconf_Ops : List AddrOpM
def AsconfResultM.vs (x : AsconfResultM) : List V := [.int x.Code, .int x.Asconf_Serial, st_AddrOp x.Asconf_Ops]
theorem shape_AsconfResult {w : World} {n0 : Int} {n1 : Int} {r2 : List AddrOpM} {vs : List Value} (h : RdA w [.int n0, .int n1, st_AddrOp r2] vs) : ∃ (A2 : Option Addr) (c2 : Nat), vs = [.int .i64 n0, .int .i64 n1, .slice A2 r2.length c2] := by
  obtain ⟨q0, e0, t0⟩ := h.int_out
  subst e0
  obtain ⟨q1, e1, t1⟩ := t0.int_out
  subst e1
  obtain ⟨v2, q2, e2, h2, t2⟩ := t1.any_out
  obtain ⟨A2, c2, a2⟩ := st_AddrOp_sh h2
  subst e2 a2
  have z := t2.nil_out
  subst z
  exact ⟨A2, c2, rfl⟩
theorem cnt_AsconfResult (y : AsconfResultM) (h : tot.totL y.vs ≤ 1048576) : vcA y.vs ≤ 1000000000 := by
  have cAddrOp := ccS_AddrOp
  simp only [AsconfResultM.vs, vcA, vc, tot.totL, tot, cc, st_AddrOp] at *
  have d2 := cAddrOp y.Asconf_Ops
  omega
theorem mem_AsconfResult {w : World} {g o : Nat} {y : AsconfResultM} (h : RdL w y.vs g o) : ∃ (A2 : Option Addr) (c2 : Nat), w.cell? ⟨g, o, none⟩ = some (.int .i64 y.Code) ∧ w.cell? ⟨g, o + 1, none⟩ = some (.int .i64 y.Asconf_Serial) ∧ w.cell? ⟨g, o + 2, none⟩ = some (.slice A2 y.Asconf_Ops.length c2) ∧ Rd w (st_AddrOp y.Asconf_Ops) (.slice A2 y.Asconf_Ops.length c2) := by
  obtain ⟨u0, p0, t0⟩ := h.get? 0 (.int y.Code) rfl
  have e0 := t0.int_out
  subst e0
  obtain ⟨u1, p1, t1⟩ := h.get? 1 (.int y.Asconf_Serial) rfl
  have e1 := t1.int_out
  subst e1
  obtain ⟨u2, p2, t2⟩ := h.get? 2 (st_AddrOp y.Asconf_Ops) rfl
  obtain ⟨A2, c2, e2⟩ := st_AddrOp_sh t2
  subst e2
  rw [Nat.add_zero] at p0
  exact ⟨A2, c2, p0, p1, p2, t2⟩
end Go.Proofs.YtncnibkojneejaaGreatDoor

/- Chapter 5 on numbers: requests and acknowledgements; the model's l5Addr, l5AsconfFault, l5SackFault. -/
namespace Go.Proofs.YtncnibkojneejaaGreatDoor
open Go.RowKit Go.Deep

def okOp (x : AddrOpM) : Bool := inB x.Kind 1 3 && inB x.Addr 1 255
def qaF (y : AsconfM) : Int := if wB y.Serial then (if 1 ≤ y.Ops.length ∧ y.Ops.length ≤ 4 then (if y.Ops.all okOp then 0 else 3) else 2) else 3
def opL (x : AddrOpM) : List Int := [x.Kind, x.Addr]
def qaC (y : AsconfM) : ChunkM := ⟨193, 0, pk y.Serial ++ ((y.Ops.length : Int) :: y.Ops.flatMap opL)⟩
def qaR (y : AsconfM) : ChunkResultM := crOf (qaF y) (qaC y)
/-- The gaps behind a number, each one behind the other with a number between. -/
def okGaps : Int → List GapM → Bool
  | _, [] => true
  | a, x :: r => inB x.From 2 x.To && inB x.To 2 65535 && decide (a + 1 < x.From) && okGaps x.To r
theorem okGaps_cons (a : Int) (x : GapM) (r : List GapM) : okGaps a (x :: r) = (inB x.From 2 x.To && inB x.To 2 65535 && decide (a + 1 < x.From) && okGaps x.To r) := rfl
def ksF (y : SackM) : Int := if wB y.Cum then (if y.Gaps.length ≤ 20 then (if okGaps 0 y.Gaps then 0 else 1) else 2) else 3
def gapL (x : GapM) : List Int := pairL x.From ++ pairL x.To
def ksC (y : SackM) : ChunkM := ⟨3, 0, pk y.Cum ++ ((y.Gaps.length : Int) :: y.Gaps.flatMap gapL)⟩
def ksR (y : SackM) : ChunkResultM := crOf (ksF y) (ksC y)
theorem qaF_zero {y : AsconfM} (h : qaF y = 0) : (0 ≤ y.Serial ∧ y.Serial ≤ 4294967295) ∧ (1 ≤ y.Ops.length ∧ y.Ops.length ≤ 4) ∧ y.Ops.all okOp = true := by
  unfold qaF wB inB at h
  split at h
  · next h1 =>
    simp only [Bool.and_eq_true, decide_eq_true_eq] at h1
    split at h
    · next h2 =>
      split at h
      · next h3 => exact ⟨h1, h2, h3⟩
      · cases h
    · cases h
  · cases h
theorem ksF_zero {y : SackM} (h : ksF y = 0) : (0 ≤ y.Cum ∧ y.Cum ≤ 4294967295) ∧ y.Gaps.length ≤ 20 ∧ okGaps 0 y.Gaps = true := by
  unfold ksF wB inB at h
  split at h
  · next h1 =>
    simp only [Bool.and_eq_true, decide_eq_true_eq] at h1
    split at h
    · next h2 =>
      split at h
      · next h3 => exact ⟨h1, h2, h3⟩
      · cases h
    · cases h
  · cases h
theorem all_take {α : Type} {f : α → Bool} {l : List α} {j : Nat} (hj : j < l.length) (h : (l.take j).all f = true) (k : f l[j] = true) : (l.take (j + 1)).all f = true := by
  rw [List.take_add_one, List.getElem?_eq_getElem hj, Option.toList_some, List.all_append, h]
  simp [k]
theorem all_not {α : Type} {f : α → Bool} {l : List α} {j : Nat} (hj : j < l.length) (k : f l[j] = false) : ¬ l.all f = true := by
  intro h
  rw [List.all_eq_true] at h
  have := h _ (List.getElem_mem hj)
  rw [k] at this
  cases this
end Go.Proofs.YtncnibkojneejaaGreatDoor
