import Derived.Test.YtepcikghhnfacaaDoorBytes
import Derived.Test.YtepcikghhnfacaaDoorJa0
import Derived.Maps.AppendAt

/- What PackWord and WordAt answer, the program's and the model's. -/
namespace Go.Proofs.YtepcikghhnfacaaDoor
open Go.RowKit Go.Deep

/-- The four bytes of a word, the most significant first. -/
def pk (x : Int) : List Int := [x / 16777216, x / 65536 % 256, x / 256 % 256, x % 256]
def packC (x : Int) : Int := if IsW x then 0 else 3
def packL (x : Int) : List Int := if IsW x then pk x else []
/-- What a call that answers a BytesResult leaves: the answer in memory that was not there before. -/
def BRes (w : World) (c : Int) (l : List Int) (e : Ending) (w' : World) : Prop :=
  ∃ A cp, e = .returned (.agg #[.int .i64 c, .slice A l.length cp]) ∧ Ob w.heap.size w'.heap.size w' A l ∧ Below w.heap.size w w' ∧ l.length ≤ cp ∧ (cp : Int) ≤ 9223372036854775807

set_option maxHeartbeats 400000 in
theorem encode_any (x : Int) (w : World) (h1 : 0 ≤ x) (h2 : x ≤ 4294967295) :
    Calls Tryd.prog 58 #[.int .u32 x] w fun e w' => e = .returned (.agg #[.int .u8 (x / 16777216), .int .u8 (x / 65536 % 256), .int .u8 (x / 256 % 256), .int .u8 (x % 256)]) ∧ w.alloc (.cells #[.int .u8 (x / 16777216), .int .u8 (x / 65536 % 256), .int .u8 (x / 256 % 256), .int .u8 (x % 256)] 77) = w' := by
  go_enter Tryd.func58, Tryd.ntmps58
  go_wp2
  exact bodyPost_ret (v := .agg #[.int .u8 (x / 16777216), .int .u8 (x / 65536 % 256), .int .u8 (x / 256 % 256), .int .u8 (x % 256)]) (by simp [results, Tryd.results58, go_sem]) rfl ⟨rfl, rfl⟩
set_option maxHeartbeats 400000 in
theorem l1Pack_any (x : Int) (w : World) (h1 : 0 ≤ x) (h2 : x ≤ 4294967295) :
    Calls Tryd.prog 33 #[.int .i64 x] w fun e w' => e = .returned (.slice (some ⟨w.heap.size, 0, none⟩) 4 4) ∧ w.alloc (.cells #[.int .u8 (x / 16777216), .int .u8 (x / 65536 % 256), .int .u8 (x / 256 % 256), .int .u8 (x % 256)] 5) = w' := by
  go_enter Tryd.func33, Tryd.ntmps33
  go_wp2
  go_ret
  exact ⟨rfl, rfl⟩
theorem row4 (w : World) (x : Int) (t : TypeId) : (w.alloc (.cells #[.int .u8 (x / 16777216), .int .u8 (x / 65536 % 256), .int .u8 (x / 256 % 256), .int .u8 (x % 256)] t)).rowIs w.heap.size t 4 (fun j => .int .u8 ((pk x).getD j 0)) :=
  World.rowIs_alloc w _ t _ (fun i hi => by
    have hi : i < 4 := hi
    rcases i with _ | _ | _ | _ | i
    · rfl
    · rfl
    · rfl
    · rfl
    · omega)
theorem bres4 {w0 w : World} (x : Int) (t : TypeId) (b : Nat) (h : Below w0.heap.size w0 w) (hb : b = w.heap.size) :
    BRes w0 0 (pk x) (.returned (.agg #[.int .i64 0, .slice (some ⟨b, 0, none⟩) 4 4])) (w.alloc (.cells #[.int .u8 (x / 16777216), .int .u8 (x / 65536 % 256), .int .u8 (x / 256 % 256), .int .u8 (x % 256)] t)) := by
  subst hb
  have hr := row4 w x t
  exact ⟨_, _, rfl, .inr ⟨_, 0, rfl, h.size, hr.lt, Nat.le_refl _, fun j hj => ⟨by rw [Nat.zero_add]; exact hr.cell hj, by rw [Nat.zero_add]; exact hr.frozen j⟩⟩, bal h _, Nat.le_refl _, by omega⟩
set_option maxHeartbeats 400000 in
theorem pack_impl (x : Int) (w : World) : Calls Tryd.prog 27 #[.int .i64 x] w (BRes w (packC x) (packL x)) := by
  by_cases h : IsW x
  · have v := wB_yes h
    rw [packC, packL, if_pos h, if_pos h]
    obtain ⟨h1, h2⟩ := h
    go_enter Tryd.func27, Tryd.ntmps27
    go_wp2_with (first | (go_at_call 44; refine (isWord_any _ _).mono ?_; rintro e w' ⟨rfl, rfl⟩) | (go_at_call 58; refine (encode_any _ _ h1 h2).mono ?_; rintro e w' ⟨rfl, rfl⟩))
    exact bodyPost_ret (v := .agg #[.int .i64 0, .slice (some ⟨w.heap.size + 1 + 1, 0, none⟩) 4 4]) (by simp [results, Tryd.results27, go_sem]) rfl (bres4 x _ _ (bal (bal (Below.refl _ _) _) _) (by simp))
  · rw [packC, packL, if_neg h, if_neg h]
    have v := wB_no h
    clear h
    go_enter Tryd.func27, Tryd.ntmps27
    go_wp2_with (first | (go_at_call 44; refine (isWord_any _ _).mono ?_; rintro e w' ⟨rfl, rfl⟩))
    exact bodyPost_ret (v := .agg #[.int .i64 3, .slice none 0 0]) (by simp [results, Tryd.results27, go_sem]) rfl ⟨_, _, rfl, .inl rfl, bal (Below.refl _ _) _, Nat.le_refl _, by omega⟩
end Go.Proofs.YtepcikghhnfacaaDoor

/- Bytes appended to a row of the call's own, the source nil, empty or not; copies of bytes (l1Copy). -/
namespace Go.Proofs.YtepcikghhnfacaaDoor
open Go.RowKit Go.Deep

theorem run_append_of_nil {P : Program} (w : World) (base : Nat) (t ty e : TypeId) (i : TypeInfo) (size : Nat) (ht : P.underlying t = some (.slice e)) (hi : P.info? e = some i)
    (v : Value) (n : Nat) (xs : List Value) (hown : w.ownsRow base e size v n xs) (c : Nat) : (Builtin.append_ #[t, t] ty #[v, .slice none 0 c]).run P w = .ok v w := by
  rcases hown.2 with ⟨rfl, rfl⟩ | ⟨g, cap, cur, rfl, _, _, hnc, _⟩
  · simp [Builtin.append_, run_underlying ht, sizeOf, typeInfo, hi, Builtin.lenOf, Builtin.firstCells]
  · simp [Builtin.append_, run_underlying ht, sizeOf, typeInfo, hi, Builtin.lenOf, Builtin.firstCells, hnc, storeCells]

/-- A block of bytes that was just laid. -/
theorem lit_bs (w : World) (t : TypeId) (l : List Int) : Bs (w.alloc (.cells (l.map (Value.int .u8)).toArray t)) (some ⟨w.heap.size, 0, none⟩) l :=
  .inr ⟨_, 0, rfl, by simp, fun j hj => by rw [Nat.zero_add, (Blk.new w t (l.map (Value.int .u8)).toArray).cell]; simp [hj]⟩
/-- append(own, src...), both of bytes. -/
theorem wpList_append_bs {w : World} {ops : Array Oper} {rest : List Oper} {o : Oper} {a : Act} {Q : Exit → Act → World → Prop} (hgd : o.guard = none) (s x : Operand)
    (ho : o.op = .call { callee := .builtin .append, args := #[s, x], argTypes := #[22, 22] })
    (base : Nat) (v : Value) (n : Nat) (xs : List Value) (hs : a.eval s = v) (hown : w.ownsRow base 5 1 v n xs)
    (A : Option Addr) (l : List Int) (c : Nat) (hx : a.eval x = .slice A l.length c) (hA : Bs w A l) (hm : n + l.length ≤ 100000) (hbase : base ≤ w.heap.size)
    (h : ∀ v' w', w'.ownsRow base 5 1 v' (n + l.length) (xs ++ l.map (Value.int .u8)) → w.grownBy w' v.ownBlock → wpList Tryd.prog ops Q rest (a.put o.dst v') w') : wpList Tryd.prog ops Q (o :: rest) a w := by
  obtain ⟨i0, hi, hzz⟩ := Option.map_eq_some_iff.1 infoU8
  simp only [Prod.mk.injEq] at hzz
  obtain ⟨hz0, hz1, hz2⟩ := hzz
  have h63 : n + l.length ≤ maxLen := by unfold maxLen; omega
  have hbytes : (n + l.length) * 1 ≤ 140737488355328 := by omega
  have hone : ∀ u ∈ l.map (Value.int .u8), u.oneCell' = true := fun u hu => by simp at hu; obtain ⟨y, _, rfl⟩ := hu; rfl
  rcases hA with rfl | ⟨b, off, rfl, hb, hA⟩
  · rcases A with _ | ad
    · refine wpList_plain hgd fun K hK => ?_
      have hrun := run_append_of_nil (P := Tryd.prog) w base 22 o.type 5 i0 1 Tryd.underlying22 hi v n xs hown c
      have hx' : a.eval x = .slice none 0 c := hx
      unfold Oper.wp
      simp [execOp, ho, resolve, invoke, builtin, hs, hx', hrun, Result.andThen]
      exact hK _ _ (h v w (by simpa using hown) (World.grownBy.refl w _))
    · exact wpList_append_own w hgd s x 22 ho base 5 i0 (.int .u8 0) 1 1 Tryd.underlying22 hi hz0 hz1 hz2 rfl (by decide) v n xs hs hown ad 0 c [] hx rfl (fun j u hu => by simp at hu) (fun u hu => by simp at hu) h63 hbytes hbase (fun v' w' h1 h2 _ => h v' w' h1 h2)
  · exact wpList_append_own w hgd s x 22 ho base 5 i0 (.int .u8 0) 1 1 Tryd.underlying22 hi hz0 hz1 hz2 rfl (by decide) v n xs hs hown ⟨b, off, none⟩ l.length c (l.map (Value.int .u8)) hx (by simp) (fun j u hu => by
        have hj : j < l.length := by
          rcases Nat.lt_or_ge j l.length with h | h
          · exact h
          · rw [List.getElem?_eq_none (by simpa using h)] at hu; cases hu
        have hadd : (⟨b, off, none⟩ : Addr).add j = ⟨b, off + j, none⟩ := by unfold Addr.add; split <;> simp_all
        rw [hadd, hA j hj, ← hu]; simp [hj]) hone h63 hbytes hbase (fun v' w' h1 h2 _ => h v' w' h1 h2)
theorem bs_grown {w w' : World} {B : Nat} {A : Option Addr} {l : List Int} (h : Bs w A l) {row : Option Nat} (hg : w.grownBy w' row) (hr : ∀ k, row = some k → B ≤ k) (ho : ∀ b off, A = some ⟨b, off, none⟩ → b < B ∨ l = []) : Bs w' A l := by
  rcases h with h | ⟨b, off, h1, h2, h3⟩
  · exact .inl h
  · rcases ho b off h1 with hb | hb
    · exact .inr ⟨b, off, h1, Nat.lt_of_lt_of_le h2 hg.size, fun j hj => (World.cell?_of_block (a := ⟨b, off + j, none⟩) (hg.block b h2 (fun e => by have := hr b e.symm; omega))).trans (h3 j hj)⟩
    · exact .inl hb
/-- Bytes of the call's own come back; what was there has not turned. -/
def OwnB (w : World) (l : List Int) (e : Ending) (w' : World) : Prop :=
  ∃ v, e = .returned v ∧ w'.ownsRow w.heap.size 5 1 v l.length (l.map (Value.int .u8)) ∧ Below w.heap.size w w'
set_option maxHeartbeats 1000000 in
theorem copy_any (A : Option Addr) (l : List Int) (c : Nat) (w : World) (hA : Bs w A l) (hm : l.length ≤ 100000) :
    Calls Tryd.prog 35 #[.slice A l.length c] w (OwnB w l) := by
  have hown : (w.alloc (.cells #[] 5)).ownsRow w.heap.size 5 1 (.slice (some ⟨w.heap.size, 0, none⟩) 0 0) 0 [] := World.ownsRow_lit w #[] 0 (Nat.le_refl _) (by unfold maxLen; omega) rfl
  have hA2 := bs_below hA (bal (Below.refl _ w) (.cells #[] 5))
  have HO := hidH hown
  have HA := hidH hA2
  have hb2 := hidH (bal (Below.refl _ w) (.cells #[] 5))
  clear hown hA2 hA
  go_enter Tryd.func35, Tryd.ntmps35
  go_wp2_with (at_builtin; refine wpList_append_bs rfl _ _ rfl w.heap.size _ _ _ rfl HO.out A l c rfl HA.out (by omega) (by simp) ?_)
  intro v' w2 hown' hgrow
  have B2 := hidH (hb2.out.grown hgrow (by simp) (fun k hk => by simp [Value.ownBlock] at hk; omega))
  have O2 := hidH hown'
  clear hown' hgrow
  go_wp2
  go_ret
  exact ⟨_, rfl, by simpa using O2.out, B2.out⟩
end Go.Proofs.YtepcikghhnfacaaDoor

/- The drawn arguments of WordAt: some bytes and some number. -/
namespace Go.Proofs.YtepcikghhnfacaaDoor
open Go.RowKit Go.Deep
theorem own_ob {w : World} {B : Nat} {v : Value} {d : List Int} (h : w.ownsRow B 5 1 v d.length (d.map (Value.int .u8))) :
    ∃ A cp, v = .slice A d.length cp ∧ Ob B w.heap.size w A d ∧ d.length ≤ cp ∧ (cp : Int) ≤ 9223372036854775807 := by
  have hc := fun g hg => h.cells (g := g) hg
  have hl := h.lt
  obtain ⟨_, ⟨rfl, hn⟩ | ⟨g, cap, cur, rfl, hg, hblk, hnc, hm, _, _⟩⟩ := h
  · have : d = [] := List.eq_nil_of_length_eq_zero hn
    subst this
    exact ⟨none, 0, rfl, .inl rfl, Nat.le_refl _, by omega⟩
  · unfold maxLen at hm
    refine ⟨_, cap, rfl, .inr ⟨g, 0, rfl, hg, (hl g rfl).2, Nat.le_refl _, fun j hj => ⟨?_, ?_⟩⟩, hnc, by omega⟩
    · have h1 := hc g rfl j (.int .u8 (d.getD j 0)) (by simp [hj])
      rw [Nat.zero_add, ← h1]
      rcases j with _ | j <;> simp [Addr.add]
    · simp [World.frozen?, hblk]
/-- Some bytes and some number come back. -/
def WAt (w : World) (e : Ending) (w' : World) : Prop :=
  ∃ A cp d n, e = .returned (.tuple #[.slice A (d : List Int).length cp, .int .i64 n]) ∧ Bs w' A d ∧ Bytes d ∧ d.length ≤ cp ∧ (cp : Int) ≤ 9223372036854775807 ∧ d.length ≤ 1000 ∧ Below w.heap.size w w'
end Go.Proofs.YtepcikghhnfacaaDoor

/- What WordAt answers, the program's and the model's. -/
namespace Go.Proofs.YtepcikghhnfacaaDoor
open Go.RowKit Go.Deep

theorem or_sum (k : Nat) (hi lo : Nat) (h : lo < 2 ^ k) : (hi * 2 ^ k) ||| lo = hi * 2 ^ k + lo := by
  rw [Nat.mul_comm, Nat.two_pow_add_eq_or_of_lt h]
theorem or4 (a b c d : Nat) (ha : a < 256) (hb : b < 256) (hc : c < 256) (hd : d < 256) :
    bits BinOp.or IntKind.u32 (bits BinOp.or IntKind.u32 (bits BinOp.or IntKind.u32 ((a : Int) * 16777216) ((b : Int) * 65536)) ((c : Int) * 256)) (d : Int) = (a : Int) * 16777216 + (b : Int) * 65536 + (c : Int) * 256 + (d : Int) := by
  have e1 : ((a : Int) * 16777216) = ((a * 16777216 : Nat) : Int) := by simp
  have e2 : ((b : Int) * 65536) = ((b * 65536 : Nat) : Int) := by simp
  have e3 : ((c : Int) * 256) = ((c * 256 : Nat) : Int) := by simp
  have s1 := or_sum 24 a (b * 65536) (by omega)
  have s2 := or_sum 16 (a * 256 + b) (c * 256) (by omega)
  have s3 := or_sum 8 ((a * 256 + b) * 256 + c) d (by omega)
  rw [e1, e2, e3, u32_or_nat _ _ (by omega) (by omega), show a * 16777216 ||| b * 65536 = (a * 256 + b) * 2 ^ 16 from by rw [show a * 16777216 = a * 2 ^ 24 from by omega, s1]; omega,
    u32_or_nat _ _ (by omega) (by omega), s2, show (a * 256 + b) * 2 ^ 16 + c * 256 = ((a * 256 + b) * 256 + c) * 2 ^ 8 from by omega, u32_or_nat _ _ (by omega) (by omega), s3]
  omega
set_option maxHeartbeats 400000 in
theorem decode_any (a b c d : Int) (w : World) (a0 : 0 ≤ a) (a1 : a ≤ 255) (b0 : 0 ≤ b) (b1 : b ≤ 255) (c0 : 0 ≤ c) (c1 : c ≤ 255) (d0 : 0 ≤ d) (d1 : d ≤ 255) :
    Calls Tryd.prog 64 #[.agg #[.int .u8 a, .int .u8 b, .int .u8 c, .int .u8 d]] w fun e w' => e = .returned (.int .u32 (a * 16777216 + b * 65536 + c * 256 + d)) ∧ Below w.heap.size w w' := by
  go_enter Tryd.func64, Tryd.ntmps64
  go_wp2
  go_ret
  refine ⟨ret_int ?_, bal (Below.refl _ _) _⟩
  have h := or4 a.toNat b.toNat c.toNat d.toNat (by omega) (by omega) (by omega) (by omega)
  rw [show ((a.toNat : Nat) : Int) = a from by omega, show ((b.toNat : Nat) : Int) = b from by omega, show ((c.toNat : Nat) : Int) = c from by omega, show ((d.toNat : Nat) : Int) = d from by omega] at h
  exact h
/-- The word in the four bytes from at on. -/
def atW (l : List Int) (k : Nat) : Int := l.getD k 0 * 16777216 + l.getD (k + 1) 0 * 65536 + l.getD (k + 2) 0 * 256 + l.getD (k + 3) 0
def atC (l : List Int) (n : Int) : Int := if 0 ≤ n ∧ n ≤ (l.length : Int) - 4 then 0 else 3
def atV (l : List Int) (n : Int) : Int := if 0 ≤ n ∧ n ≤ (l.length : Int) - 4 then atW l n.toNat else 0
set_option maxHeartbeats 400000 in
theorem at_impl_yes (b off n c : Nat) (k : Nat) (p q r s : Int) (w : World) (hc : k + 4 ≤ n) (hn : n ≤ c) (hm : (c : Int) ≤ 9223372036854775807) (hb : b < w.heap.size)
    (hp : w.cell? ⟨b, off + k, none⟩ = some (.int .u8 p)) (hq : w.cell? ⟨b, off + k + 1, none⟩ = some (.int .u8 q)) (hr : w.cell? ⟨b, off + k + 2, none⟩ = some (.int .u8 r)) (hs : w.cell? ⟨b, off + k + 3, none⟩ = some (.int .u8 s))
    (p0 : 0 ≤ p ∧ p ≤ 255) (q0 : 0 ≤ q ∧ q ≤ 255) (r0 : 0 ≤ r ∧ r ≤ 255) (s0 : 0 ≤ s ∧ s ≤ 255) :
    Calls Tryd.prog 38 #[.slice (some ⟨b, off, none⟩) n c, .int .i64 k] w fun e w' => e = .returned (.agg #[.int .i64 0, .int .i64 (p * 16777216 + q * 65536 + r * 256 + s)]) ∧ Below w.heap.size w w' := by
  have hat : ∀ w, (Instr.arrayAt 77 (.slice (some ⟨b, off + k, none⟩) 4 (c - k))).run Tryd.prog w = .ok (.pointer (some ⟨b, off + k, none⟩)) w := fun w => run_arrayAt w 77 5 4 _ _ _ Tryd.underlying77 (by omega)
  go_enter Tryd.func38, Tryd.ntmps38
  go_wp2_with fail
  refine (decode_any p q r s _ p0.1 p0.2 q0.1 q0.2 r0.1 r0.2 s0.1 s0.2).mono ?_
  rintro e w' ⟨rfl, hb'⟩
  have z1 := hb'.size
  simp only [World.size_alloc] at z1
  have z2 : w.heap.size < w'.heap.size := by omega
  have X := ((Blk.new w 59 #[.int .i64 0, .int .i64 0]).alloc (.cells #[.int .u8 p, .int .u8 q, .int .u8 r, .int .u8 s] 77)).below hb'
  have hbb := btr (bal (bal (Below.refl _ _) _) _) hb'
  have f0 := X.frozen 0
  have f1 := X.frozen 1
  obtain ⟨x0, x1, _⟩ := X.two
  obtain ⟨p1, p2⟩ := p0
  obtain ⟨q1, q2⟩ := q0
  obtain ⟨r1, r2⟩ := r0
  obtain ⟨s1, s2⟩ := s0
  clear hb' z1 hp hq hr hs X hat
  have hv : (p * 16777216 + q * 65536 + r * 256 + s) % 4294967296 = p * 16777216 + q * 65536 + r * 256 + s := by omega
  go_wp2
  exact bodyPost_ret (v := .agg #[.int .i64 0, .int .i64 (p * 16777216 + q * 65536 + r * 256 + s)]) (by simp [results, Tryd.results38, go_sem, x0, x1]) rfl ⟨rfl, bst (bst hbb (Nat.le_refl _) _) (Nat.le_refl _) _⟩
set_option maxHeartbeats 400000 in
theorem at_impl (A : Option Addr) (l : List Int) (c : Nat) (n : Int) (w : World) (hA : Bs w A l) (hl : Bytes l) (hc : l.length ≤ c) (hm : (c : Int) ≤ 9223372036854775807) :
    Calls Tryd.prog 38 #[.slice A l.length c, .int .i64 n] w fun e w' => e = .returned (.agg #[.int .i64 (atC l n), .int .i64 (atV l n)]) ∧ Below w.heap.size w w' := by
  by_cases h : 0 ≤ n ∧ n ≤ (l.length : Int) - 4
  · rw [atC, atV, if_pos h, if_pos h]
    obtain ⟨k, rfl⟩ : ∃ k : Nat, n = k := ⟨n.toNat, by omega⟩
    rcases hA with rfl | ⟨b, off, rfl, hb, hA⟩
    · simp at h; omega
    · exact at_impl_yes b off l.length c k _ _ _ _ w (by omega) hc hm hb (hA k (by omega)) (hA (k + 1) (by omega)) (hA (k + 2) (by omega)) (hA (k + 3) (by omega)) (hl.get _) (hl.get _) (hl.get _) (hl.get _)
  · rw [atC, atV, if_neg h, if_neg h]
    by_cases h0 : 0 ≤ n
    · have h1 : (l.length : Int) - 4 < n := by omega
      clear h
      go_enter Tryd.func38, Tryd.ntmps38
      go_wp2
      exact bodyPost_ret (v := .agg #[.int .i64 3, .int .i64 0]) (by simp [results, Tryd.results38, go_sem]) rfl ⟨rfl, bal (Below.refl _ _) _⟩
    · have h1 : n < 0 := by omega
      clear h h0
      go_enter Tryd.func38, Tryd.ntmps38
      go_wp2
      exact bodyPost_ret (v := .agg #[.int .i64 3, .int .i64 0]) (by simp [results, Tryd.results38, go_sem]) rfl ⟨rfl, bal (Below.refl _ _) _⟩
set_option maxHeartbeats 1000000 in
theorem l1At_any (b off n c : Nat) (k : Nat) (p q r s : Int) (w : World) (hc : k + 4 ≤ n) (hm : (n : Int) ≤ 9223372036854775807)
    (hp : w.cell? ⟨b, off + k, none⟩ = some (.int .u8 p)) (hq : w.cell? ⟨b, off + (k + 1), none⟩ = some (.int .u8 q)) (hr : w.cell? ⟨b, off + (k + 2), none⟩ = some (.int .u8 r)) (hs : w.cell? ⟨b, off + (k + 3), none⟩ = some (.int .u8 s))
    (p0 : 0 ≤ p) (p1 : p ≤ 255) (q0 : 0 ≤ q) (q1 : q ≤ 255) (r0 : 0 ≤ r) (r1 : r ≤ 255) (s0 : 0 ≤ s) (s1 : s ≤ 255) :
    Calls Tryd.prog 47 #[.slice (some ⟨b, off, none⟩) n c, .int .i64 k] w fun e w' => e = .returned (.int .i64 (p * 16777216 + q * 65536 + r * 256 + s)) ∧ ∃ m, w.drewN m = w' := by
  have i1 : IntKind.i64.wrap ((k : Int) + 1) = (k : Int) + 1 := IntWalk.i64_in _ (by omega)
  have i2 : IntKind.i64.wrap ((k : Int) + 2) = (k : Int) + 2 := IntWalk.i64_in _ (by omega)
  have i3 : IntKind.i64.wrap ((k : Int) + 3) = (k : Int) + 3 := IntWalk.i64_in _ (by omega)
  have t1 : ((k : Int) + 1).toNat = k + 1 := by omega
  have t2 : ((k : Int) + 2).toNat = k + 2 := by omega
  have t3 : ((k : Int) + 3).toNat = k + 3 := by omega
  have b0 : (k : Int) < (n : Int) := by omega
  have b1 : (k : Int) + 1 < (n : Int) := by omega
  have b2 : (k : Int) + 2 < (n : Int) := by omega
  have b3 : (k : Int) + 3 < (n : Int) := by omega
  have g1 : 0 ≤ (k : Int) + 1 := by omega
  have g2 : 0 ≤ (k : Int) + 2 := by omega
  have g3 : 0 ≤ (k : Int) + 3 := by omega
  go_enter Tryd.func47, Tryd.ntmps47
  go_wp2
  go_quiet (fail)
  go_wp2
  go_ret
  exact ⟨rfl, _, rfl⟩
end Go.Proofs.YtepcikghhnfacaaDoor

/- The model's chunks: l1Pair, l1PairAt, ChunkFault. -/
namespace Go.Proofs.YtepcikghhnfacaaDoor
open Go.RowKit Go.Deep

/-- A chunk's value. -/
def ckV (k f : Int) (A : Option Addr) (n c : Nat) : Value := .agg #[.int .i64 k, .int .i64 f, .slice A n c]
def chF (k f : Int) (b : List Int) : Int := if inB k 0 255 && inB f 0 255 then (if b.length ≤ 160 then 0 else 2) else 3
/-- A chunk's bytes: its head, its body, noughts to whole words. -/
def chPad (n : Nat) : Nat := (4 - n % 4) % 4
def chL (k f : Int) (b : List Int) : List Int := [k, f, ((b.length : Int) + 4) / 256, ((b.length : Int) + 4) % 256] ++ b ++ List.replicate (chPad b.length) 0
theorem chL_len (k f : Int) (b : List Int) : (chL k f b).length = 4 + b.length + chPad b.length := by simp [chL]; omega
set_option maxHeartbeats 400000 in
theorem pair_any (n : Int) (w : World) (h0 : 0 ≤ n) (h1 : n < 65536) :
    Calls Tryd.prog 78 #[.int .i64 n] w fun e w' => e = .returned (.slice (some ⟨w.heap.size, 0, none⟩) 2 2) ∧ w.alloc (.cells #[.int .u8 (n / 256), .int .u8 (n % 256)] 5) = w' := by
  go_enter Tryd.func78, Tryd.ntmps78
  go_wp2
  go_ret
  exact ⟨rfl, rfl⟩
set_option maxHeartbeats 1000000 in
theorem chFault_spec (k f : Int) (A : Option Addr) (b : List Int) (c : Nat) (w : World) (hm : (b.length : Int) ≤ 9223372036854775807) :
    Calls Tryd.prog 42 #[ckV k f A b.length c] w fun e w' => e = .returned (.int .i64 (chF k f b)) ∧ Below w.heap.size w w' := by
  unfold ckV
  by_cases h1 : inB k 0 255 = true
  · by_cases h2 : inB f 0 255 = true
    · by_cases h3 : b.length ≤ 160
      · have e : chF k f b = 0 := by simp [chF, h1, h2, h3]
        have h4 : (b.length : Int) ≤ 160 := by omega
        rw [e]
        clear e h3
        go_enter Tryd.func42, Tryd.ntmps42
        go_wp2_with (go_at_call 67; refine (in_any _ _ _ _).mono ?_; rintro e w' ⟨rfl, rfl⟩)
        go_ret
        exact ⟨rfl, bal (Below.refl _ _) _⟩
      · have e : chF k f b = 2 := by simp [chF, h1, h2, h3]
        have h4 : (160 : Int) < (b.length : Int) := by omega
        rw [e]
        clear e h3
        go_enter Tryd.func42, Tryd.ntmps42
        go_wp2_with (go_at_call 67; refine (in_any _ _ _ _).mono ?_; rintro e w' ⟨rfl, rfl⟩)
        go_ret
        exact ⟨rfl, bal (Below.refl _ _) _⟩
    · have h2 : inB f 0 255 = false := by simpa using h2
      have e : chF k f b = 3 := by simp [chF, h1, h2]
      rw [e]
      clear e
      go_enter Tryd.func42, Tryd.ntmps42
      go_wp2_with (go_at_call 67; refine (in_any _ _ _ _).mono ?_; rintro e w' ⟨rfl, rfl⟩)
      go_ret
      exact ⟨rfl, bal (Below.refl _ _) _⟩
  · have h1 : inB k 0 255 = false := by simpa using h1
    have e : chF k f b = 3 := by simp [chF, h1]
    rw [e]
    clear e
    go_enter Tryd.func42, Tryd.ntmps42
    go_wp2_with (go_at_call 67; refine (in_any _ _ _ _).mono ?_; rintro e w' ⟨rfl, rfl⟩)
    go_ret
    exact ⟨rfl, bal (Below.refl _ _) _⟩
end Go.Proofs.YtepcikghhnfacaaDoor
