import Derived.Test.YtjjileefdjjijaaDoorMa0
import Derived.Maps.AppendAt
import Derived.Laws.BytesArg
import Derived.Lib.LazyBuf
import Derived.Deep.LoopGhost
import Derived.Laws.Slices

/- Bytes that are drawn: l1Some; and l1Max. -/
namespace Go.Proofs.YtjjileefdjjijaaDoor
open Go.RowKit Go.Deep

theorem Win.grown {g : Nat} {w w' : World} (h : Win g (g + 1) w w') : w.grownBy w' (some g) :=
  ⟨h.os, h.tape, h.output, h.size, fun k hk hne => h.block k hk (by have : k ≠ g := fun e => hne (by rw [e]); omega)⟩
theorem Src.grown {w w' : World} {g : Nat} {A : Option Addr} {l : List Int} {c at_ : Nat} (h : Src w g A l c at_) {row : Option Nat} (hg : w.grownBy w' row) (hr : ∀ k, row = some k → g < k) : Src w' g A l c at_ := by
  have hlt := h.lt
  refine ⟨(hg.block g hlt (fun e => by have := hr g e.symm; omega)).trans h.blk, h.bytes, ?_, h.len⟩
  rcases h.row with h1 | ⟨b, off, h1, h2, h3⟩
  · exact .inl h1
  · exact .inr ⟨b, off, h1, h2, fun j hj => (World.cell?_of_block (a := ⟨b, off + j, none⟩) (hg.block b (by omega) (fun e => by have := hr b e.symm; omega))).trans (h3 j hj)⟩
/-- A write into a row that was not there at w is no write to what was there. -/
theorem Win.row {B C : Nat} {w a b : World} (h : Win B C w a) {row : Option Nat} (hg : a.grownBy b row) (hr : ∀ k, row = some k → w.heap.size ≤ k) : Win B C w b :=
  ⟨hg.os.trans h.os, hg.tape.trans h.tape, hg.output.trans h.output, Nat.le_trans h.size hg.size,
   fun k hk ho => (hg.block k (Nat.lt_of_lt_of_le hk h.size) (fun e => by have := hr k e.symm; omega)).trans (h.block k hk ho),
   fun q hq => (World.frozen?_of_block (hg.block q.block (Nat.lt_of_lt_of_le hq h.size) (fun e => by have := hr _ e.symm; omega))).trans (h.frozen q hq)⟩
theorem own_kept {w w' : World} {B g : Nat} {e : TypeId} {v : Value} {n : Nat} {xs : List Value} (h : w.ownsRow B e 1 v n xs) (hw : Win g (g + 1) w w') (hg : g < B) : w'.ownsRow B e 1 v n xs :=
  h.kept hw.grown (.inr (fun e => by have := h.lt g e; omega))
/-- Bytes that were drawn: a slice of bytes of the call's own. -/
def SomeRes (N : Nat) (w : World) (g : Nat) (A : Option Addr) (l : List Int) (c at_ : Nat) (e : Ending) (w' : World) : Prop :=
  ∃ (v : Value) (d : List Int) (at' : Nat), e = .returned v ∧ Bytes d ∧ d.length = N ∧ w'.ownsRow w.heap.size 5 1 v d.length (d.map (Value.int .u8)) ∧ Src w' g A l c at' ∧ at' ≤ at_ + N ∧ Win g (g + 1) w w'
theorem some_step {w wr w1 w2 : World} {g : Nat} {A : Option Addr} {l : List Int} {c at1 : Nat} {v v' : Value} {d : List Int} {x : Int} (hw : Win g (g + 1) w wr) (hg : g < w.heap.size) (hown : wr.ownsRow w.heap.size 5 1 v d.length (d.map (Value.int .u8)))
    (S1 : Src w1 g A l c at1) (W1 : Win g (g + 1) wr w1) (hown' : w2.ownsRow w.heap.size 5 1 v' (d.length + 1) (d.map (Value.int .u8) ++ [.int .u8 x])) (hgrow : (w1.alloc (.cells #[.int .u8 x] 5)).grownBy w2 v.ownBlock) :
    w2.ownsRow w.heap.size 5 1 v' (d ++ [x]).length ((d ++ [x]).map (Value.int .u8)) ∧ Src w2 g A l c at1 ∧ Win g (g + 1) w w2 := by
  have hb : Below w1.heap.size w1 (w1.alloc (.cells #[.int .u8 x] 5)) := bal (Below.refl _ _) _
  have hl := hown.lt
  refine ⟨by simpa using hown', (S1.below hb).grown hgrow (fun k hk => by have := hl k hk; omega), ((hw.trans W1).trans (Win.of_below hb)).row hgrow (fun k hk => (hl k hk).1)⟩
set_option maxHeartbeats 1000000 in
theorem some_any (N : Nat) (g : Nat) (A : Option Addr) (l : List Int) (c at_ : Nat) (w : World) (h : Src w g A l c at_) (hN : N ≤ 1000) (ha : (at_ : Int) ≤ 700000000) :
    Calls Tryd.prog 58 #[.pointer (some ⟨g, 0, none⟩), .int .i64 N] w (SomeRes N w g A l c at_) := by
  have hg := h.lt
  have H := hidH h
  clear h
  obtain ⟨i0, hi, hzz⟩ := Option.map_eq_some_iff.1 infoU8
  simp only [Prod.mk.injEq] at hzz
  obtain ⟨hz0, hz1, hz2⟩ := hzz
  go_enter Tryd.func58, Tryd.ntmps58
  go_wp2
  go_loopw [1, 5] (fun n v wr => ∃ (k : Nat) (d : List Int) (at1 : Nat), n = .int .i64 k ∧ Bytes d ∧ d.length + k = N ∧ wr.ownsRow w.heap.size 5 1 v d.length (d.map (Value.int .u8)) ∧ Src wr g A l c at1 ∧ at1 + k ≤ at_ + N ∧ Win g (g + 1) w wr) (fun n _ _ => (intOf n).toNat)
  case atStart => exact ⟨N, [], at_, rfl, fun x hx => by simp at hx, by simp, World.ownsRow_lit w #[] 0 (Nat.le_refl _) (by unfold maxLen; omega) rfl, H.out.below (bal (Below.refl _ _) _), Nat.le_refl _, Win.of_below (bal (Below.refl _ _) _)⟩
  case round =>
    obtain ⟨k, d, at1, rfl, hd, hdk, hown, hS, hat, hW⟩ := hrel
    rcases k with _ | k
    · have O := hidH hown
      have S := hidH hS
      have W := hidH hW
      have D := hidH hd
      have K := hidH hdk
      clear hown hS hW hd hdk hz0 hz1 hz2 hi
      go_wp2
      go_ret
      exact ⟨_, d, at1, rfl, D.out, K.out, O.out, S.out, by omega, W.out⟩
    · have hgt : (0 : Int) < ((k + 1 : Nat) : Int) := by omega
      have hsz := hW.size
      have K := hidH hdk
      have hdl : d.length ≤ 1000 := by omega
      clear hdk
      go_wp2_with fail
      refine (next_any _ _ _ _ _ _ _ hS (by omega)).mono ?_
      rintro e w1 ⟨x, rfl, x0, x1, S1, W1, z1⟩
      have hown1 := own_kept hown W1 hg
      have hsz1 := W1.size
      clear z1
      have hx : x ≤ 255 := by omega
      go_wp2_with (at_builtin; refine wpList_append_own _ rfl _ _ 22 rfl w.heap.size 5 i0 (.int .u8 0) 1 1 Tryd.underlying22 hi hz0 hz1 hz2 rfl (by decide) _ _ _ rfl (hown1.alloc _) ⟨w1.heap.size, 0, none⟩ 1 1 [.int .u8 x] rfl rfl ?c1 ?c2 ?c3 ?c4 ?c5 ?_)
      case c1 => exact cell_one_new _ _ _
      case c2 => intro u hu; simp at hu; subst hu; rfl
      case c3 => unfold maxLen; omega
      case c4 => omega
      case c5 => simp; omega
      intro v' w2 hown' hgrow _
      obtain ⟨O, S, W⟩ := some_step hW hg hown S1 W1 hown' hgrow
      have hD : Bytes (d ++ [x]) := fun y hy => by
        rcases List.mem_append.1 hy with h | h
        · exact hd y h
        · simp at h; subst h; exact ⟨x0, hx⟩
      have O' := hidH O
      have S' := hidH S
      have W' := hidH W
      have D' := hidH hD
      clear O S W hD hown hown1 hown' hgrow hS S1 W1 hW hd
      go_wp2
      go_roundw
      case rel => exact ⟨k, d ++ [x], at1 + 1, rfl, D'.out, by have := K.out; simp; omega, O'.out, S'.out, by omega, W'.out⟩
      case measure => simp [intOf]
theorem own_drewN {w : World} {B : Nat} {e : TypeId} {s : Nat} {v : Value} {n : Nat} {xs : List Value} (h : w.ownsRow B e s v n xs) (m : Nat) : (w.drewN m).ownsRow B e s v n xs := h
theorem own_grow {w wr w2 : World} {e : TypeId} {s n m : Nat} {v : Value} {xs : List Value} {o : Obj} (hB : Below w.heap.size w wr) (hown : wr.ownsRow w.heap.size e s v n xs) (hgrow : ((wr.drewN m).alloc o).grownBy w2 v.ownBlock) : Below w.heap.size w w2 :=
  (bal (below_drewN hB m) o).grown hgrow (bal (below_drewN hB m) o).size (fun k hk => (hown.lt k hk).1)
theorem own_mono {w : World} {B C : Nat} {e : TypeId} {s n : Nat} {v : Value} {xs : List Value} (h : w.ownsRow C e s v n xs) (hB : B ≤ C) : w.ownsRow B e s v n xs := by
  obtain ⟨h1, h2 | ⟨g, cap, cur, hv, hg, r⟩⟩ := h
  · exact ⟨h1, .inl h2⟩
  · exact ⟨h1, .inr ⟨g, cap, cur, hv, Nat.le_trans hB hg, r⟩⟩
end Go.Proofs.YtjjileefdjjijaaDoor

/- What PackWord and WordAt answer, the program's and the model's. -/
namespace Go.Proofs.YtjjileefdjjijaaDoor
open Go.RowKit Go.Deep

/-- The four bytes of a word, the most significant first. -/
def pk (x : Int) : List Int := [x / 16777216, x / 65536 % 256, x / 256 % 256, x % 256]
def packC (x : Int) : Int := if IsW x then 0 else 3
def packL (x : Int) : List Int := if IsW x then pk x else []
/-- What a call that answers a BytesResult leaves: the answer in memory that was not there before. -/
def BRes (w : World) (c : Int) (l : List Int) (e : Ending) (w' : World) : Prop :=
  ∃ A cp, e = .returned (.agg #[.int .i64 c, .slice A l.length cp]) ∧ Ob w.heap.size w'.heap.size w' A l ∧ Below w.heap.size w w' ∧ l.length ≤ cp ∧ (cp : Int) ≤ 9223372036854775807

set_option maxHeartbeats 400000 in
theorem encode_any (x : Int) (w : World) (h1 : 0 ≤ x) (h2 : x ≤ 4294967295) :
    Calls Tryd.prog 167 #[.int .u32 x] w fun e w' => e = .returned (.agg #[.int .u8 (x / 16777216), .int .u8 (x / 65536 % 256), .int .u8 (x / 256 % 256), .int .u8 (x % 256)]) ∧ w.alloc (.cells #[.int .u8 (x / 16777216), .int .u8 (x / 65536 % 256), .int .u8 (x / 256 % 256), .int .u8 (x % 256)] 182) = w' := by
  go_enter Tryd.func167, Tryd.ntmps167
  go_wp2
  exact bodyPost_ret (v := .agg #[.int .u8 (x / 16777216), .int .u8 (x / 65536 % 256), .int .u8 (x / 256 % 256), .int .u8 (x % 256)]) (by simp [results, Tryd.results167, go_sem]) rfl ⟨rfl, rfl⟩
set_option maxHeartbeats 400000 in
theorem l1Pack_any (x : Int) (w : World) (h1 : 0 ≤ x) (h2 : x ≤ 4294967295) :
    Calls Tryd.prog 108 #[.int .i64 x] w fun e w' => e = .returned (.slice (some ⟨w.heap.size, 0, none⟩) 4 4) ∧ w.alloc (.cells #[.int .u8 (x / 16777216), .int .u8 (x / 65536 % 256), .int .u8 (x / 256 % 256), .int .u8 (x % 256)] 5) = w' := by
  go_enter Tryd.func108, Tryd.ntmps108
  go_wp2
  go_ret
  exact ⟨rfl, rfl⟩
theorem row4 (w : World) (x : Int) (t : TypeId) : (w.alloc (.cells #[.int .u8 (x / 16777216), .int .u8 (x / 65536 % 256), .int .u8 (x / 256 % 256), .int .u8 (x % 256)] t)).rowIs w.heap.size t 4 (fun j => .int .u8 ((pk x).getD j 0)) :=
  World.rowIs_alloc w _ t _ (fun i hi => by
    have hi : i < 4 := hi
    rcases i with _ | _ | _ | _ | i
    · rfl
    · rfl
    · rfl
    · rfl
    · omega)
theorem bres4 {w0 w : World} (x : Int) (t : TypeId) (b : Nat) (h : Below w0.heap.size w0 w) (hb : b = w.heap.size) :
    BRes w0 0 (pk x) (.returned (.agg #[.int .i64 0, .slice (some ⟨b, 0, none⟩) 4 4])) (w.alloc (.cells #[.int .u8 (x / 16777216), .int .u8 (x / 65536 % 256), .int .u8 (x / 256 % 256), .int .u8 (x % 256)] t)) := by
  subst hb
  have hr := row4 w x t
  exact ⟨_, _, rfl, .inr ⟨_, 0, rfl, h.size, hr.lt, Nat.le_refl _, fun j hj => ⟨by rw [Nat.zero_add]; exact hr.cell hj, by rw [Nat.zero_add]; exact hr.frozen j⟩⟩, bal h _, Nat.le_refl _, by omega⟩
end Go.Proofs.YtjjileefdjjijaaDoor

/- Bytes appended to a row of the call's own, the source nil, empty or not; copies of bytes (l1Copy). -/
namespace Go.Proofs.YtjjileefdjjijaaDoor
open Go.RowKit Go.Deep

theorem run_append_of_nil {P : Program} (w : World) (base : Nat) (t ty e : TypeId) (i : TypeInfo) (size : Nat) (ht : P.underlying t = some (.slice e)) (hi : P.info? e = some i)
    (v : Value) (n : Nat) (xs : List Value) (hown : w.ownsRow base e size v n xs) (c : Nat) : (Builtin.append_ #[t, t] ty #[v, .slice none 0 c]).run P w = .ok v w := by
  rcases hown.2 with ⟨rfl, rfl⟩ | ⟨g, cap, cur, rfl, _, _, hnc, _⟩
  · simp [Builtin.append_, run_underlying ht, sizeOf, typeInfo, hi, Builtin.lenOf, Builtin.firstCells]
  · simp [Builtin.append_, run_underlying ht, sizeOf, typeInfo, hi, Builtin.lenOf, Builtin.firstCells, hnc, storeCells]

/-- A block of bytes that was just laid. -/
theorem lit_bs (w : World) (t : TypeId) (l : List Int) : Bs (w.alloc (.cells (l.map (Value.int .u8)).toArray t)) (some ⟨w.heap.size, 0, none⟩) l :=
  .inr ⟨_, 0, rfl, by simp, fun j hj => by rw [Nat.zero_add, (Blk.new w t (l.map (Value.int .u8)).toArray).cell]; simp [hj]⟩
/-- append(own, src...), both of bytes. -/
theorem wpList_append_bs {w : World} {ops : Array Oper} {rest : List Oper} {o : Oper} {a : Act} {Q : Exit → Act → World → Prop} (hgd : o.guard = none) (s x : Operand)
    (ho : o.op = .call { callee := .builtin .append, args := #[s, x], argTypes := #[22, 22] })
    (base : Nat) (v : Value) (n : Nat) (xs : List Value) (hs : a.eval s = v) (hown : w.ownsRow base 5 1 v n xs)
    (A : Option Addr) (l : List Int) (c : Nat) (hx : a.eval x = .slice A l.length c) (hA : Bs w A l) (hm : n + l.length ≤ 4000000) (hbase : base ≤ w.heap.size)
    (h : ∀ v' w', w'.ownsRow base 5 1 v' (n + l.length) (xs ++ l.map (Value.int .u8)) → w.grownBy w' v.ownBlock → wpList Tryd.prog ops Q rest (a.put o.dst v') w') : wpList Tryd.prog ops Q (o :: rest) a w := by
  obtain ⟨i0, hi, hzz⟩ := Option.map_eq_some_iff.1 infoU8
  simp only [Prod.mk.injEq] at hzz
  obtain ⟨hz0, hz1, hz2⟩ := hzz
  have h63 : n + l.length ≤ maxLen := by unfold maxLen; omega
  have hbytes : (n + l.length) * 1 ≤ 140737488355328 := by omega
  have hone : ∀ u ∈ l.map (Value.int .u8), u.oneCell' = true := fun u hu => by simp at hu; obtain ⟨y, _, rfl⟩ := hu; rfl
  rcases hA with rfl | ⟨b, off, rfl, hb, hA⟩
  · rcases A with _ | ad
    · refine wpList_plain hgd fun K hK => ?_
      have hrun := run_append_of_nil (P := Tryd.prog) w base 22 o.type 5 i0 1 Tryd.underlying22 hi v n xs hown c
      have hx' : a.eval x = .slice none 0 c := hx
      unfold Oper.wp
      simp [execOp, ho, resolve, invoke, builtin, hs, hx', hrun, Result.andThen]
      exact hK _ _ (h v w (by simpa using hown) (World.grownBy.refl w _))
    · exact wpList_append_own w hgd s x 22 ho base 5 i0 (.int .u8 0) 1 1 Tryd.underlying22 hi hz0 hz1 hz2 rfl (by decide) v n xs hs hown ad 0 c [] hx rfl (fun j u hu => by simp at hu) (fun u hu => by simp at hu) h63 hbytes hbase (fun v' w' h1 h2 _ => h v' w' h1 h2)
  · exact wpList_append_own w hgd s x 22 ho base 5 i0 (.int .u8 0) 1 1 Tryd.underlying22 hi hz0 hz1 hz2 rfl (by decide) v n xs hs hown ⟨b, off, none⟩ l.length c (l.map (Value.int .u8)) hx (by simp) (fun j u hu => by
        have hj : j < l.length := by
          rcases Nat.lt_or_ge j l.length with h | h
          · exact h
          · rw [List.getElem?_eq_none (by simpa using h)] at hu; cases hu
        have hadd : (⟨b, off, none⟩ : Addr).add j = ⟨b, off + j, none⟩ := by unfold Addr.add; split <;> simp_all
        rw [hadd, hA j hj, ← hu]; simp [hj]) hone h63 hbytes hbase (fun v' w' h1 h2 _ => h v' w' h1 h2)
theorem bs_grown {w w' : World} {B : Nat} {A : Option Addr} {l : List Int} (h : Bs w A l) {row : Option Nat} (hg : w.grownBy w' row) (hr : ∀ k, row = some k → B ≤ k) (ho : ∀ b off, A = some ⟨b, off, none⟩ → b < B ∨ l = []) : Bs w' A l := by
  rcases h with h | ⟨b, off, h1, h2, h3⟩
  · exact .inl h
  · rcases ho b off h1 with hb | hb
    · exact .inr ⟨b, off, h1, Nat.lt_of_lt_of_le h2 hg.size, fun j hj => (World.cell?_of_block (a := ⟨b, off + j, none⟩) (hg.block b h2 (fun e => by have := hr b e.symm; omega))).trans (h3 j hj)⟩
    · exact .inl hb
/-- Bytes of the call's own come back; what was there has not turned. -/
def OwnB (w : World) (l : List Int) (e : Ending) (w' : World) : Prop :=
  ∃ v, e = .returned v ∧ w'.ownsRow w.heap.size 5 1 v l.length (l.map (Value.int .u8)) ∧ Below w.heap.size w w'
set_option maxHeartbeats 1000000 in
theorem copy_any (A : Option Addr) (l : List Int) (c : Nat) (w : World) (hA : Bs w A l) (hm : l.length ≤ 4000000) :
    Calls Tryd.prog 83 #[.slice A l.length c] w (OwnB w l) := by
  have hown : (w.alloc (.cells #[] 5)).ownsRow w.heap.size 5 1 (.slice (some ⟨w.heap.size, 0, none⟩) 0 0) 0 [] := World.ownsRow_lit w #[] 0 (Nat.le_refl _) (by unfold maxLen; omega) rfl
  have hA2 := bs_below hA (bal (Below.refl _ w) (.cells #[] 5))
  have HO := hidH hown
  have HA := hidH hA2
  have hb2 := hidH (bal (Below.refl _ w) (.cells #[] 5))
  clear hown hA2 hA
  go_enter Tryd.func83, Tryd.ntmps83
  go_wp2_with (at_builtin; refine wpList_append_bs rfl _ _ rfl w.heap.size _ _ _ rfl HO.out A l c rfl HA.out (by omega) (by simp) ?_)
  intro v' w2 hown' hgrow
  have B2 := hidH (hb2.out.grown hgrow (by simp) (fun k hk => by simp [Value.ownBlock] at hk; omega))
  have O2 := hidH hown'
  clear hown' hgrow
  go_wp2
  go_ret
  exact ⟨_, rfl, by simpa using O2.out, B2.out⟩
end Go.Proofs.YtjjileefdjjijaaDoor

/- The drawn arguments of WordAt: some bytes and some number. -/
namespace Go.Proofs.YtjjileefdjjijaaDoor
open Go.RowKit Go.Deep
theorem own_ob {w : World} {B : Nat} {v : Value} {d : List Int} (h : w.ownsRow B 5 1 v d.length (d.map (Value.int .u8))) :
    ∃ A cp, v = .slice A d.length cp ∧ Ob B w.heap.size w A d ∧ d.length ≤ cp ∧ (cp : Int) ≤ 9223372036854775807 := by
  have hc := fun g hg => h.cells (g := g) hg
  have hl := h.lt
  obtain ⟨_, ⟨rfl, hn⟩ | ⟨g, cap, cur, rfl, hg, hblk, hnc, hm, _, _⟩⟩ := h
  · have : d = [] := List.eq_nil_of_length_eq_zero hn
    subst this
    exact ⟨none, 0, rfl, .inl rfl, Nat.le_refl _, by omega⟩
  · unfold maxLen at hm
    refine ⟨_, cap, rfl, .inr ⟨g, 0, rfl, hg, (hl g rfl).2, Nat.le_refl _, fun j hj => ⟨?_, ?_⟩⟩, hnc, by omega⟩
    · have h1 := hc g rfl j (.int .u8 (d.getD j 0)) (by simp [hj])
      rw [Nat.zero_add, ← h1]
      rcases j with _ | j <;> simp [Addr.add]
    · simp [World.frozen?, hblk]
set_option maxHeartbeats 400000 in
theorem max_any (a b : Int) (w : World) : Calls Tryd.prog 104 #[.int .i64 a, .int .i64 b] w fun e w' => e = .returned (.int .i64 (max a b)) ∧ w = w' := by
  rcases Int.lt_or_le b a with h | h
  · rw [show max a b = a from by omega]
    go_enter Tryd.func104, Tryd.ntmps104
    go_wp2
    go_ret
    exact ⟨rfl, rfl⟩
  · rw [show max a b = b from by omega]
    go_enter Tryd.func104, Tryd.ntmps104
    go_wp2
    go_ret
    exact ⟨rfl, rfl⟩
/-- Some bytes and some number come back. -/
def WAt (w : World) (e : Ending) (w' : World) : Prop :=
  ∃ A cp d n, e = .returned (.tuple #[.slice A (d : List Int).length cp, .int .i64 n]) ∧ Bs w' A d ∧ Bytes d ∧ d.length ≤ cp ∧ (cp : Int) ≤ 9223372036854775807 ∧ d.length ≤ 1000 ∧ Below w.heap.size w w'
end Go.Proofs.YtjjileefdjjijaaDoor

/- What WordAt answers, the program's and the model's. -/
namespace Go.Proofs.YtjjileefdjjijaaDoor
open Go.RowKit Go.Deep

theorem or_sum (k : Nat) (hi lo : Nat) (h : lo < 2 ^ k) : (hi * 2 ^ k) ||| lo = hi * 2 ^ k + lo := by
  rw [Nat.mul_comm, Nat.two_pow_add_eq_or_of_lt h]
theorem or4 (a b c d : Nat) (ha : a < 256) (hb : b < 256) (hc : c < 256) (hd : d < 256) :
    bits BinOp.or IntKind.u32 (bits BinOp.or IntKind.u32 (bits BinOp.or IntKind.u32 ((a : Int) * 16777216) ((b : Int) * 65536)) ((c : Int) * 256)) (d : Int) = (a : Int) * 16777216 + (b : Int) * 65536 + (c : Int) * 256 + (d : Int) := by
  have e1 : ((a : Int) * 16777216) = ((a * 16777216 : Nat) : Int) := by simp
  have e2 : ((b : Int) * 65536) = ((b * 65536 : Nat) : Int) := by simp
  have e3 : ((c : Int) * 256) = ((c * 256 : Nat) : Int) := by simp
  have s1 := or_sum 24 a (b * 65536) (by omega)
  have s2 := or_sum 16 (a * 256 + b) (c * 256) (by omega)
  have s3 := or_sum 8 ((a * 256 + b) * 256 + c) d (by omega)
  rw [e1, e2, e3, u32_or_nat _ _ (by omega) (by omega), show a * 16777216 ||| b * 65536 = (a * 256 + b) * 2 ^ 16 from by rw [show a * 16777216 = a * 2 ^ 24 from by omega, s1]; omega,
    u32_or_nat _ _ (by omega) (by omega), s2, show (a * 256 + b) * 2 ^ 16 + c * 256 = ((a * 256 + b) * 256 + c) * 2 ^ 8 from by omega, u32_or_nat _ _ (by omega) (by omega), s3]
  omega
set_option maxHeartbeats 400000 in
theorem decode_any (a b c d : Int) (w : World) (a0 : 0 ≤ a) (a1 : a ≤ 255) (b0 : 0 ≤ b) (b1 : b ≤ 255) (c0 : 0 ≤ c) (c1 : c ≤ 255) (d0 : 0 ≤ d) (d1 : d ≤ 255) :
    Calls Tryd.prog 142 #[.agg #[.int .u8 a, .int .u8 b, .int .u8 c, .int .u8 d]] w fun e w' => e = .returned (.int .u32 (a * 16777216 + b * 65536 + c * 256 + d)) ∧ Below w.heap.size w w' := by
  go_enter Tryd.func142, Tryd.ntmps142
  go_wp2
  go_ret
  refine ⟨ret_int ?_, bal (Below.refl _ _) _⟩
  have h := or4 a.toNat b.toNat c.toNat d.toNat (by omega) (by omega) (by omega) (by omega)
  rw [show ((a.toNat : Nat) : Int) = a from by omega, show ((b.toNat : Nat) : Int) = b from by omega, show ((c.toNat : Nat) : Int) = c from by omega, show ((d.toNat : Nat) : Int) = d from by omega] at h
  exact h
/-- The word in the four bytes from at on. -/
def atW (l : List Int) (k : Nat) : Int := l.getD k 0 * 16777216 + l.getD (k + 1) 0 * 65536 + l.getD (k + 2) 0 * 256 + l.getD (k + 3) 0
def atC (l : List Int) (n : Int) : Int := if 0 ≤ n ∧ n ≤ (l.length : Int) - 4 then 0 else 3
def atV (l : List Int) (n : Int) : Int := if 0 ≤ n ∧ n ≤ (l.length : Int) - 4 then atW l n.toNat else 0
set_option maxHeartbeats 1000000 in
theorem l1At_any (b off n c : Nat) (k : Nat) (p q r s : Int) (w : World) (hc : k + 4 ≤ n) (hm : (n : Int) ≤ 9223372036854775807)
    (hp : w.cell? ⟨b, off + k, none⟩ = some (.int .u8 p)) (hq : w.cell? ⟨b, off + (k + 1), none⟩ = some (.int .u8 q)) (hr : w.cell? ⟨b, off + (k + 2), none⟩ = some (.int .u8 r)) (hs : w.cell? ⟨b, off + (k + 3), none⟩ = some (.int .u8 s))
    (p0 : 0 ≤ p) (p1 : p ≤ 255) (q0 : 0 ≤ q) (q1 : q ≤ 255) (r0 : 0 ≤ r) (r1 : r ≤ 255) (s0 : 0 ≤ s) (s1 : s ≤ 255) :
    Calls Tryd.prog 81 #[.slice (some ⟨b, off, none⟩) n c, .int .i64 k] w fun e w' => e = .returned (.int .i64 (p * 16777216 + q * 65536 + r * 256 + s)) ∧ ∃ m, w.drewN m = w' := by
  have i1 : IntKind.i64.wrap ((k : Int) + 1) = (k : Int) + 1 := IntWalk.i64_in _ (by omega)
  have i2 : IntKind.i64.wrap ((k : Int) + 2) = (k : Int) + 2 := IntWalk.i64_in _ (by omega)
  have i3 : IntKind.i64.wrap ((k : Int) + 3) = (k : Int) + 3 := IntWalk.i64_in _ (by omega)
  have t1 : ((k : Int) + 1).toNat = k + 1 := by omega
  have t2 : ((k : Int) + 2).toNat = k + 2 := by omega
  have t3 : ((k : Int) + 3).toNat = k + 3 := by omega
  have b0 : (k : Int) < (n : Int) := by omega
  have b1 : (k : Int) + 1 < (n : Int) := by omega
  have b2 : (k : Int) + 2 < (n : Int) := by omega
  have b3 : (k : Int) + 3 < (n : Int) := by omega
  have g1 : 0 ≤ (k : Int) + 1 := by omega
  have g2 : 0 ≤ (k : Int) + 2 := by omega
  have g3 : 0 ≤ (k : Int) + 3 := by omega
  go_enter Tryd.func81, Tryd.ntmps81
  go_wp2
  go_quiet (fail)
  go_wp2
  go_ret
  exact ⟨rfl, _, rfl⟩
end Go.Proofs.YtjjileefdjjijaaDoor

/- The model's chunks: l1Pair, l1PairAt, ChunkFault. -/
namespace Go.Proofs.YtjjileefdjjijaaDoor
open Go.RowKit Go.Deep

theorem own_below0 {w w' : World} {B : Nat} {e : TypeId} {s n : Nat} {v : Value} {xs : List Value} (h : w.ownsRow B e s v n xs) (hb : Below w.heap.size w w') : w'.ownsRow B e s v n xs := by
  obtain ⟨h1, h2 | ⟨g, cap, cur, h3, h4, h5, h6⟩⟩ := h
  · exact ⟨h1, .inl h2⟩
  · exact ⟨h1, .inr ⟨g, cap, cur, h3, h4, (hb.block g (Array.getElem?_eq_some_iff.1 h5).1).trans h5, h6⟩⟩
theorem lit_bs2 {w : World} {g : Nat} {t : TypeId} {x y : Int} (h : Blk w g t #[.int .u8 x, .int .u8 y]) : Bs w (some ⟨g, 0, none⟩) [x, y] :=
  .inr ⟨g, 0, rfl, h.lt, fun j hj => by
    rw [Nat.zero_add, h.cell]
    match j, hj with
    | 0, _ => rfl
    | 1, _ => rfl⟩
theorem win_set (w : World) (g o : Nat) (u : Value) : Win g (g + 1) w (w.setCell ⟨g, o, none⟩ u) :=
  ⟨rfl, rfl, rfl, by simp [World.setCell], fun k _ ho => Below.heap_setCell _ _ _ _ (by show k ≠ g; omega), fun _ _ => World.frozen?_setCell _ _ _ _⟩
/-- A chunk's value. -/
def ckV (k f : Int) (A : Option Addr) (n c : Nat) : Value := .agg #[.int .i64 k, .int .i64 f, .slice A n c]
def chF (k f : Int) (b : List Int) : Int := if inB k 0 255 && inB f 0 255 then (if b.length ≤ 160 then 0 else 2) else 3
/-- A chunk's bytes: its head, its body, noughts to whole words. -/
def chPad (n : Nat) : Nat := (4 - n % 4) % 4
def chL (k f : Int) (b : List Int) : List Int := [k, f, ((b.length : Int) + 4) / 256, ((b.length : Int) + 4) % 256] ++ b ++ List.replicate (chPad b.length) 0
theorem chL_len (k f : Int) (b : List Int) : (chL k f b).length = 4 + b.length + chPad b.length := by simp [chL]; omega
set_option maxHeartbeats 400000 in
theorem pair_any (n : Int) (w : World) (h0 : 0 ≤ n) (h1 : n < 65536) :
    Calls Tryd.prog 109 #[.int .i64 n] w fun e w' => e = .returned (.slice (some ⟨w.heap.size, 0, none⟩) 2 2) ∧ w.alloc (.cells #[.int .u8 (n / 256), .int .u8 (n % 256)] 5) = w' := by
  go_enter Tryd.func109, Tryd.ntmps109
  go_wp2
  go_ret
  exact ⟨rfl, rfl⟩
set_option maxHeartbeats 1000000 in
theorem chFault_spec (k f : Int) (A : Option Addr) (b : List Int) (c : Nat) (w : World) (hm : (b.length : Int) ≤ 9223372036854775807) :
    Calls Tryd.prog 80 #[ckV k f A b.length c] w fun e w' => e = .returned (.int .i64 (chF k f b)) ∧ Below w.heap.size w w' := by
  unfold ckV
  by_cases h1 : inB k 0 255 = true
  · by_cases h2 : inB f 0 255 = true
    · by_cases h3 : b.length ≤ 160
      · have e : chF k f b = 0 := by simp [chF, h1, h2, h3]
        have h4 : (b.length : Int) ≤ 160 := by omega
        rw [e]
        clear e h3
        go_enter Tryd.func80, Tryd.ntmps80
        go_wp2_with (go_at_call 107; refine (in_any _ _ _ _).mono ?_; rintro e w' ⟨rfl, rfl⟩)
        go_ret
        exact ⟨rfl, bal (Below.refl _ _) _⟩
      · have e : chF k f b = 2 := by simp [chF, h1, h2, h3]
        have h4 : (160 : Int) < (b.length : Int) := by omega
        rw [e]
        clear e h3
        go_enter Tryd.func80, Tryd.ntmps80
        go_wp2_with (go_at_call 107; refine (in_any _ _ _ _).mono ?_; rintro e w' ⟨rfl, rfl⟩)
        go_ret
        exact ⟨rfl, bal (Below.refl _ _) _⟩
    · have h2 : inB f 0 255 = false := by simpa using h2
      have e : chF k f b = 3 := by simp [chF, h1, h2]
      rw [e]
      clear e
      go_enter Tryd.func80, Tryd.ntmps80
      go_wp2_with (go_at_call 107; refine (in_any _ _ _ _).mono ?_; rintro e w' ⟨rfl, rfl⟩)
      go_ret
      exact ⟨rfl, bal (Below.refl _ _) _⟩
  · have h1 : inB k 0 255 = false := by simpa using h1
    have e : chF k f b = 3 := by simp [chF, h1]
    rw [e]
    clear e
    go_enter Tryd.func80, Tryd.ntmps80
    go_wp2_with (go_at_call 107; refine (in_any _ _ _ _).mono ?_; rintro e w' ⟨rfl, rfl⟩)
    go_ret
    exact ⟨rfl, bal (Below.refl _ _) _⟩
end Go.Proofs.YtjjileefdjjijaaDoor

/- The laws' lwBytes: two slices of the same bytes are the same text. -/
namespace Go.Proofs.YtjjileefdjjijaaDoor
open Go.RowKit Go.Deep
theorem conv_bs (w : World) (A : Option Addr) (l : List Int) (c : Nat) (h : Bs w A l) : (convert 22 9 (.slice A l.length c)).run Tryd.prog w = .ok (.string (strOfNums l)) w := by
  rcases h with rfl | ⟨b, off, rfl, _, h⟩
  · rw [List.length_nil, run_convert_bytes_string w 22 9 5 _ 0 c Tryd.underlying22 Tryd.underlying5 Tryd.underlying9]
    cases A <;> simp [Conv.bytesToString, loadCells]
    all_goals rfl
  · exact run_convert_bytes_arg w 22 5 Tryd.underlying22 Tryd.underlying5 b off _ c l rfl h 9 Tryd.underlying9
set_option maxHeartbeats 400000 in
theorem lwB_same (A B : Option Addr) (l : List Int) (c d : Nat) (w : World) (hA : Bs w A l) (hB : Bs w B l) :
    Calls Tryd.prog 20 #[.slice A l.length c, .slice B l.length d] w fun e w' => e = .returned (.bool true) ∧ w = w' := by
  have h1 := conv_bs w A l c hA
  have h2 := conv_bs w B l d hB
  clear hA hB
  go_enter Tryd.func20, Tryd.ntmps20
  go_wp2
  go_ret
  exact ⟨rfl, rfl⟩
end Go.Proofs.YtjjileefdjjijaaDoor

/- What SerialLess answers, the program's and the model's, and what the comparison of two IntResults answers. No condition. -/
namespace Go.Proofs.YtjjileefdjjijaaDoor
open Go.RowKit

def lessB (a b : Int) : Bool := inB (gapV a b) 1 2147483647
theorem gapV_no {a b : Int} (h : ¬ (IsW a ∧ IsW b)) : gapV a b = 0 := by rw [gapV, if_neg h]
theorem addC_no {a b : Int} (h : ¬ (IsW a ∧ IsW b)) : addC a b = 3 := by rw [addC, if_neg h]
theorem addC_yes {a b : Int} (h : IsW a ∧ IsW b) : addC a b = 0 := by rw [addC, if_pos h]

end Go.Proofs.YtjjileefdjjijaaDoor

/- The model's SameMac. -/
namespace Go.Proofs.YtjjileefdjjijaaDoor
open Go.RowKit Go.Deep

def sameM (a b : List Int) : Bool := a.length == 32 && a == b
theorem strOfNums_inj {a b : List Int} (ha : Bytes a) (hb : Bytes b) (h : strOfNums a = strOfNums b) : a = b := by
  have e : a.map (fun n => UInt8.ofNat n.toNat) = b.map (fun n => UInt8.ofNat n.toNat) := by
    rw [← strOfNums_data, ← strOfNums_data, h]
  have key : ∀ (l : List Int), Bytes l → (l.map (fun n => UInt8.ofNat n.toNat)).map (fun (u : UInt8) => (u.toNat : Int)) = l := by
    intro l hl
    rw [List.map_map]
    conv => rhs; rw [← List.map_id l]
    refine List.map_congr_left fun x hx => ?_
    have := hl x hx
    simp only [Function.comp, id, UInt8.toNat_ofNat']
    omega
  rw [← key a ha, ← key b hb, e]
end Go.Proofs.YtjjileefdjjijaaDoor

/- The program's isByte, ChunkFault, bytes.Clone, bytes.Equal. -/
namespace Go.Proofs.YtjjileefdjjijaaDoor
open Go.RowKit Go.Deep

theorem str_eqb {x y : List Int} (hx : Bytes x) (hy : Bytes y) : ((strOfNums x).toList == (strOfNums y).toList) = decide (x = y) := by
  rw [ByteArray.toList_eq, ByteArray.toList_eq]
  by_cases e : x = y
  · subst e; simp
  · have : (strOfNums x).data.toList ≠ (strOfNums y).data.toList := fun h => e (strOfNums_inj hx hy (by
      cases hx : strOfNums x; cases hy : strOfNums y
      rw [hx, hy] at h
      simpa using h))
    rw [beq_eq_false_iff_ne.2 this, decide_eq_false e]
set_option maxHeartbeats 400000 in
theorem isByte_any (a : Int) (w : World) : Calls Tryd.prog 72 #[.int .i64 a] w fun e w' => e = .returned (.bool (inB a 0 255)) ∧ w = w' := by
  by_cases h1 : 0 ≤ a
  · rw [show inB a 0 255 = decide (a ≤ 255) from by simp [inB, h1]]
    go_enter Tryd.func72, Tryd.ntmps72
    go_wp2
    go_ret
    exact ⟨rfl, rfl⟩
  · have h : a < 0 := by omega
    rw [show inB a 0 255 = false from inB_lo h]
    clear h1
    go_enter Tryd.func72, Tryd.ntmps72
    go_wp2
    go_ret
    exact ⟨rfl, rfl⟩
set_option maxHeartbeats 1000000 in
theorem chFault_impl (k f : Int) (A : Option Addr) (b : List Int) (c : Nat) (w : World) (hm : (b.length : Int) ≤ 9223372036854775807) :
    Calls Tryd.prog 21 #[ckV k f A b.length c] w fun e w' => e = .returned (.int .i64 (chF k f b)) ∧ Below w.heap.size w w' := by
  unfold ckV
  by_cases h1 : inB k 0 255 = true
  · by_cases h2 : inB f 0 255 = true
    · by_cases h3 : b.length ≤ 160
      · have e : chF k f b = 0 := by simp [chF, h1, h2, h3]
        have h4 : (b.length : Int) ≤ 160 := by omega
        rw [e]
        clear e h3
        go_enter Tryd.func21, Tryd.ntmps21
        go_wp2_with (go_at_call 72; refine (isByte_any _ _).mono ?_; rintro e w' ⟨rfl, rfl⟩)
        go_ret
        exact ⟨rfl, bal (Below.refl _ _) _⟩
      · have e : chF k f b = 2 := by simp [chF, h1, h2, h3]
        have h4 : (160 : Int) < (b.length : Int) := by omega
        rw [e]
        clear e h3
        go_enter Tryd.func21, Tryd.ntmps21
        go_wp2_with (go_at_call 72; refine (isByte_any _ _).mono ?_; rintro e w' ⟨rfl, rfl⟩)
        go_ret
        exact ⟨rfl, bal (Below.refl _ _) _⟩
    · have h2 : inB f 0 255 = false := by simpa using h2
      have e : chF k f b = 3 := by simp [chF, h1, h2]
      rw [e]
      clear e
      go_enter Tryd.func21, Tryd.ntmps21
      go_wp2_with (go_at_call 72; refine (isByte_any _ _).mono ?_; rintro e w' ⟨rfl, rfl⟩)
      go_ret
      exact ⟨rfl, bal (Below.refl _ _) _⟩
  · have h1 : inB k 0 255 = false := by simpa using h1
    have e : chF k f b = 3 := by simp [chF, h1]
    rw [e]
    clear e
    go_enter Tryd.func21, Tryd.ntmps21
    go_wp2_with (go_at_call 72; refine (isByte_any _ _).mono ?_; rintro e w' ⟨rfl, rfl⟩)
    go_ret
    exact ⟨rfl, bal (Below.refl _ _) _⟩
set_option maxHeartbeats 1000000 in
theorem clone_any (A : Option Addr) (l : List Int) (c : Nat) (w : World) (hA : Bs w A l) (hm : l.length ≤ 4000000) :
    Calls Tryd.prog 143 #[.slice A l.length c] w (OwnB w l) := by
  rcases A with _ | ad
  · obtain rfl : l = [] := by
      rcases hA with h | ⟨b, off, h, _⟩
      · exact h
      · cases h
    rw [show ([] : List Int).length = 0 from rfl]
    have hnil : (binOp .eql 22 (.slice none 0 c) (.slice none 0 0)).run Tryd.prog w = .ok (.bool true) w := Go.run_eql_slice_nil w 22 5 none 0 c Tryd.underlying22
    go_enter Tryd.func143, Tryd.ntmps143
    go_wp2
    go_ret
    exact ⟨_, rfl, ⟨rfl, .inl ⟨rfl, rfl⟩⟩, Below.refl _ _⟩
  · have hown : (w.alloc (.cells #[] 5)).ownsRow w.heap.size 5 1 (.slice (some ⟨w.heap.size, 0, none⟩) 0 0) 0 [] := World.ownsRow_lit w #[] 0 (Nat.le_refl _) (by unfold maxLen; omega) rfl
    have hA2 := bs_below hA (bal (Below.refl _ w) (.cells #[] 5))
    have HO := hidH hown
    have HA := hidH hA2
    have hb2 := hidH (bal (Below.refl _ w) (.cells #[] 5))
    clear hown hA2 hA
    have hnil := Go.run_eql_slice_nil w 22 5 (some ad) l.length c Tryd.underlying22
    go_enter Tryd.func143, Tryd.ntmps143
    go_wp2_with (at_builtin; refine wpList_append_bs rfl _ _ rfl w.heap.size _ _ _ rfl HO.out (some ad) l c rfl HA.out (by omega) (by simp) ?_)
    intro v' w2 hown' hgrow
    have B2 := hidH (hb2.out.grown hgrow (by simp) (fun k hk => by simp [Value.ownBlock] at hk; omega))
    have O2 := hidH hown'
    clear hown' hgrow
    go_wp2
    go_ret
    exact ⟨_, rfl, by simpa using O2.out, B2.out⟩
set_option maxHeartbeats 1000000 in
theorem bEqual_any (A B : Option Addr) (a b : List Int) (ca cb : Nat) (w : World) (hA : Bs w A a) (hB : Bs w B b) (ba : Bytes a) (bb : Bytes b) :
    Calls Tryd.prog 132 #[.slice A a.length ca, .slice B b.length cb] w fun e w' => e = .returned (.bool (decide (a = b))) ∧ w = w' := by
  have h1 := conv_bs w A a ca hA
  have h2 := conv_bs w B b cb hB
  have HS := hidH (str_eqb ba bb)
  clear hA hB
  go_enter Tryd.func132, Tryd.ntmps132
  go_wp2
  go_ret
  exact ⟨by rw [← HS.out]; rfl, rfl⟩
end Go.Proofs.YtjjileefdjjijaaDoor

/- Parts of a slice of bytes: what s[i:h], s[:h], s[i:] hand back. -/
namespace Go.Proofs.YtjjileefdjjijaaDoor
open Go.RowKit Go.Deep

theorem sizeU8 (u : World) : (sizeOf (Tryd.prog.elem 22)).run Tryd.prog u = .ok 1 u := by
  obtain ⟨i0, hi, hzz⟩ := Option.map_eq_some_iff.1 infoU8
  simp only [Prod.mk.injEq] at hzz
  have he : Tryd.prog.elem 22 = 5 := by kernel_rfl
  rw [he]
  simp [sizeOf, typeInfo, hi, hzz.2.1]
theorem undB : Tryd.prog.underlying 22 = some (.slice (Tryd.prog.elem 22)) := by kernel_rfl
theorem add_off (b off i : Nat) : (⟨b, off, none⟩ : Addr).add i = ⟨b, off + i, none⟩ := by unfold Addr.add; split <;> simp_all
/-- The address behind i elements: the old one where nothing is left of the capacity. -/
def cutA (A : Option Addr) (i c : Nat) : Option Addr := if c = i then A else A.map (·.add i)
theorem cutA_bs {w : World} {A : Option Addr} {l m : List Int} {i c : Nat} (hA : Bs w A l) (hm : i + m.length ≤ l.length) (hc : l.length ≤ c) (he : ∀ j, j < m.length → l.getD (i + j) 0 = m.getD j 0) : Bs w (cutA A i c) m := by
  rcases hA with h | ⟨b, off, rfl, h2, h3⟩
  · rw [h] at hm
    exact .inl (List.eq_nil_of_length_eq_zero (by rw [List.length_nil] at hm; omega))
  · unfold cutA
    split
    · exact .inl (List.eq_nil_of_length_eq_zero (by omega))
    · exact .inr ⟨b, off + i, by simp [add_off], h2, fun j hj => by rw [show off + i + j = off + (i + j) by omega, h3 (i + j) (by omega), he j hj]⟩
theorem cutA_drop {w : World} {A : Option Addr} {l : List Int} {i c : Nat} (hA : Bs w A l) (hi : i ≤ l.length) (hc : l.length ≤ c) : Bs w (cutA A i c) (l.drop i) :=
  cutA_bs hA (by rw [List.length_drop]; omega) hc (fun j _ => by simp [List.getD_eq_getElem?_getD])
theorem cutA_take {w : World} {A : Option Addr} {l : List Int} {n : Nat} (hA : Bs w A l) (hn : n ≤ l.length) : Bs w A (l.take n) := by
  rcases hA with h | ⟨b, off, rfl, h2, h3⟩
  · exact .inl (by rw [h]; simp)
  · exact .inr ⟨b, off, rfl, h2, fun j hj => by
      rw [List.length_take] at hj
      rw [h3 j (by omega)]
      simp [List.getD_eq_getElem?_getD, List.getElem?_take_of_lt (show j < n by omega)]⟩
theorem cut_lh (A : Option Addr) (z c i n : Nat) (H : Int) (hH : H = (i : Int) + (n : Int)) (hc : i + n ≤ c) (u : World) :
    (Instr.slice 22 (.slice A z c) (some (.int .i64 (i : Int))) (some (.int .i64 H)) none).run Tryd.prog u = .ok (.slice (cutA A i c) n (c - i)) u := by
  subst hH
  rw [run_slice_lh (w := u) 22 A z c undB .i64 .i64 (i : Int) ((i : Int) + (n : Int)) (by omega) (by omega) (by omega)]
  simp only [sizeU8, Result.andThen, sliced]
  rw [show ((i : Int) + (n : Int)).toNat - (i : Int).toNat = n by omega, Int.toNat_natCast, Nat.mul_one]
  rfl
theorem cut_h (A : Option Addr) (z c n : Nat) (H : Int) (hH : H = (n : Int)) (hc : n ≤ c) (u : World) :
    (Instr.slice 22 (.slice A z c) none (some (.int .i64 H)) none).run Tryd.prog u = .ok (.slice A n c) u := by
  subst hH
  rw [run_slice_h (w := u) 22 A z c undB .i64 (n : Int) (by omega) (by omega)]
  simp only [sizeU8, Result.andThen, sliced]
  rw [Int.toNat_natCast, Nat.sub_zero, Nat.sub_zero, Nat.zero_mul]
  split
  · rfl
  · rcases A with _ | ⟨b, off, sp⟩
    · rfl
    · simp [Addr.add]
theorem cut_l (A : Option Addr) (z c i : Nat) (H : Int) (hH : H = (i : Int)) (hz : i ≤ z) (u : World) :
    (Instr.slice 22 (.slice A z c) (some (.int .i64 H)) none none).run Tryd.prog u = .ok (.slice (cutA A i c) (z - i) (c - i)) u := by
  subst hH
  rw [run_slice_l (w := u) 22 A z c undB .i64 (i : Int) (by omega) (by omega)]
  simp only [sizeU8, Result.andThen, sliced]
  rw [Int.toNat_natCast, Nat.mul_one]
  rfl
end Go.Proofs.YtjjileefdjjijaaDoor
