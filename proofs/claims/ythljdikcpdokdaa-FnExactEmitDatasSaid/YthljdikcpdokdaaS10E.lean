/- Chapter 10: what stands while pieces go out: the sender's copy owned, the pieces that go out behind it. -/
import Derived.Test.YthljdikcpdokdaaNa9
import Derived.Test.YthljdikcpdokdaaM10E
namespace Go.Proofs.Ythljdikcpdokdaa
open Go.RowKit Go.Deep

theorem flatI_upd (k : Nat) (u : Value) (f : SendItemM → SendItemM) (hf : ∀ x v, scs (f x) v = (scs x v).set k u) (hk : k < 9) : ∀ (r : List SendItemM) (ks : List (Value × Nat × Nat)) (i : Nat) (x : SendItemM), r[i]? = some x → ks.length = r.length → (flatF (RowI r ks)).set (i * 9 + k) u = flatF (RowI (r.set i (f x)) ks)
  | [], _, _, _, h, _ => by simp at h
  | _ :: _, [], _, _, _, h => by simp at h
  | y :: r, kk :: ks, 0, x, hx, _ => by
    simp at hx
    subst hx
    have h1 : flatF (RowI (y :: r) (kk :: ks)) = scs y kk.1 ++ flatF (RowI r ks) := rfl
    have h2 : flatF (RowI (f y :: r) (kk :: ks)) = scs (f y) kk.1 ++ flatF (RowI r ks) := rfl
    rw [Nat.zero_mul, Nat.zero_add, h1, List.set_append_left _ _ (by simp [scs]; omega), ← hf]
    exact h2.symm
  | y :: r, kk :: ks, i + 1, x, hx, h2 => by
    have ih := flatI_upd k u f hf hk r ks i x (by simpa using hx) (by simpa using h2)
    have h1 : flatF (RowI (y :: r) (kk :: ks)) = scs y kk.1 ++ flatF (RowI r ks) := rfl
    have h3 : flatF (RowI (y :: r.set i (f x)) (kk :: ks)) = scs y kk.1 ++ flatF (RowI (r.set i (f x)) ks) := rfl
    rw [h1, List.set_append_right _ _ (by simp [scs]; omega), show (i + 1) * 9 + k - (scs y kk.1).length = i * 9 + k by simp [scs]; omega, ih]
    exact h3.symm
theorem rowI_e : ∀ {r q : List SendItemM} {ks : List (Value × Nat × Nat)}, q.map SendItemM.d = r.map SendItemM.d → (RowI q ks).map RowF.e = (RowI r ks).map RowF.e
  | [], [], _, _ => rfl
  | [], _ :: _, _, h => by simp at h
  | _ :: _, [], _, h => by simp at h
  | x :: r, z :: q, [], _ => rfl
  | x :: r, z :: q, k :: ks, h => by
    simp only [List.map_cons, List.cons.injEq] at h
    have ih := rowI_e (ks := ks) h.2
    show (siE z k.1 k.2.1 k.2.2).e :: (RowI q ks).map RowF.e = (siE x k.1 k.2.1 k.2.2).e :: (RowI r ks).map RowF.e
    rw [ih, siE_e, siE_e, h.1]
theorem rowI_hi : ∀ {r : List SendItemM} {ks : List (Value × Nat × Nat)}, ∀ x ∈ RowI r ks, ∃ k ∈ ks, x.hi = k.2.2
  | [], _, x, h => by simp [RowI] at h
  | _ :: _, [], x, h => by simp [RowI] at h
  | y :: r, k :: ks, x, h => by
    simp only [RowI, List.zipWith_cons_cons, List.mem_cons] at h
    rcases h with rfl | h
    · exact ⟨k, by simp, rfl⟩
    · obtain ⟨l, hl, e⟩ := rowI_hi x h
      exact ⟨l, by simp [hl], e⟩
theorem rowI_ks : ∀ {r : List SendItemM} {ks : List (Value × Nat × Nat)}, ks.length = r.length → ∀ k ∈ ks, ∃ x ∈ RowI r ks, x.hi = k.2.2
  | [], [], _, k, h => by simp at h
  | [], _ :: _, h, _, _ => by simp at h
  | _ :: _, [], h, _, _ => by simp at h
  | y :: r, l :: ks, hl, k, h => by
    rcases List.mem_cons.1 h with rfl | h
    · exact ⟨siE y k.1 k.2.1 k.2.2, by simp [RowI], rfl⟩
    · obtain ⟨x, hx, e⟩ := rowI_ks (r := r) (by simpa using hl) k h
      exact ⟨x, by simp only [RowI, List.zipWith_cons_cons, List.mem_cons]; exact .inr hx, e⟩
/-- A plain field of an item written. -/
theorem SZ.put {W : World} {B0 B g cap n : Nat} {r : List SendItemM} {ks : List (Value × Nat × Nat)} (h : SZ W B0 B (.slice (some ⟨g, 0, none⟩) n cap) r ks) {i k : Nat} {x : SendItemM} (hx : r[i]? = some x) (hk : k < 9) (u : Value) (f : SendItemM → SendItemM) (hf : ∀ x v, scs (f x) v = (scs x v).set k u) (hd : (f x).d = x.d) :
    SZ (W.setCell ⟨g, i * 9 + k, none⟩ u) B0 B (.slice (some ⟨g, 0, none⟩) n cap) (r.set i (f x)) ks := by
  have hi : i < r.length := (List.getElem?_eq_some_iff.1 hx).1
  obtain ⟨h1, ⟨_, h0⟩ | ⟨g', cap', cur, e, hB, hc, hn, hm, hs, ht⟩⟩ := h.row
  · omega
  · injection e with e1 e2 e3
    injection e1 with e1
    injection e1 with e1 _
    subst e1 e2 e3
    have hb : Blk W g 121 cur := hc
    have e4 := flatI_upd k u f hf hk r ks i x hx h.len
    have hmap : (r.set i (f x)).map SendItemM.d = r.map SendItemM.d := by
      rw [List.map_set, hd]
      refine List.ext_getElem (by simp) (fun t h1 h2 => ?_)
      rw [List.getElem_set]
      split
      · next e => subst e; rw [List.getElem?_eq_getElem hi] at hx; injection hx with hx; simp [hx]
      · rfl
    refine ⟨?_, ?_, by rw [List.length_set]; exact h.len⟩
    · rw [List.length_set]
      refine ⟨?_, .inr ⟨g, cap, _, rfl, hB, hb.put (i * 9 + k) u, hn, hm, by simpa using hs, ?_⟩⟩
      · rw [← e4, List.length_set]; exact h1
      · rw [Array.toList_setIfInBounds, List.take_set, ht, e4]
    · have hr := h.rts.turn (w' := W.setCell ⟨g, i * 9 + k, none⟩ u) (by simp [World.setCell]) (B8.of_win (set_win W g (i * 9 + k) u) hb (by decide))
      unfold RFs at hr ⊢
      rw [rowI_e hmap]
      exact hr
theorem SZ.blk {W : World} {B0 B g cap n : Nat} {r : List SendItemM} {ks : List (Value × Nat × Nat)} (h : SZ W B0 B (.slice (some ⟨g, 0, none⟩) n cap) r ks) : ∃ cur, Blk W g 121 cur ∧ B ≤ g := by
  obtain ⟨_, ⟨e, _⟩ | ⟨g', cap', cur, e, hB, hc, _⟩⟩ := h.row
  · cases e
  · injection e with e1 _ _
    injection e1 with e1
    injection e1 with e1 _
    subst e1
    exact ⟨cur, hc, hB⟩
/-- Pieces going out: the sender's box, its numbers, its items, a list F of places, the pieces so far. -/
structure EM (w : World) (B g : Nat) (y : SendM) (S I F : Value) (nf : Nat) (fs : List Value) (ks : List (Value × Nat × Nat)) (W : World) (its : List SendItemM) (D : Value) (ds : List DataM) (ls : List (Value × Nat × Nat)) : Prop where
  box : Blk W g 47 #[.int .i64 y.Next, .int .i64 y.Acked, S, I]
  seqs : W.ownsRow B 2 1 S y.Seqs.length (y.Seqs.map (Value.int .i64))
  its : SZ W B B I its ks
  fnd : W.ownsRow B 122 1 F nf fs
  dat : LZ W w.heap.size D ds ls
  out : Below B w W
  leB : B ≤ w.heap.size
  apart : ∀ k ∈ ks, k.2.2 ≤ w.heap.size
section
variable {w W W' : World} {B g nf : Nat} {y : SendM} {S I F D : Value} {fs : List Value} {ks ls : List (Value × Nat × Nat)} {its : List SendItemM} {ds : List DataM}
theorem EM.top (h : EM w B g y S I F nf fs ks W its D ds ls) : w.heap.size ≤ W.heap.size := h.out.size
theorem EM.turn (h : EM w B g y S I F nf fs ks W its D ds ls) (hb : Below W.heap.size W W') : EM w B g y S I F nf fs ks W' its D ds ls :=
  ⟨h.box.below hb, own_below0 h.seqs hb, h.its.below hb, own_below0 h.fnd hb, h.dat.below hb, h.out.trans (hb.mono (Nat.le_trans h.leB h.out.size)), h.leB, h.apart⟩
/-- An item's plain field written. -/
theorem EM.put {gi cap n : Nat} (h : EM w B g y S (.slice (some ⟨gi, 0, none⟩) n cap) F nf fs ks W its D ds ls) {i k : Nat} {x : SendItemM} (hx : its[i]? = some x) (hk : k < 9) (u : Value) (f : SendItemM → SendItemM) (hf : ∀ x v, scs (f x) v = (scs x v).set k u) (hd : (f x).d = x.d) :
    EM w B g y S (.slice (some ⟨gi, 0, none⟩) n cap) F nf fs ks (W.setCell ⟨gi, i * 9 + k, none⟩ u) (its.set i (f x)) D ds ls := by
  obtain ⟨cur, hc, hB⟩ := h.its.blk
  have hne : g ≠ gi := fun e => by subst e; exact blk_ne h.box hc (by decide)
  refine ⟨?_, own_farT h.seqs hc (by decide) _ _, h.its.put hx hk u f hf hd, own_farT h.fnd hc (by decide) _ _, ⟨own_farT h.dat.row hc (by decide) _ _, h.dat.rts.turn (by simp [World.setCell]) (B8.of_win (set_win W gi (i * 9 + k) u) hc (by decide)), h.dat.len⟩, h.out.setCell (p := ⟨gi, i * 9 + k, none⟩) hB u, h.leB, h.apart⟩
  have hw := set_win W gi (i * 9 + k) u
  exact (hw.block g h.box.lt (by omega)).trans h.box
/-- A piece that goes out appended. -/
theorem EM.app {Wa : World} {D' v : Value} {lo hi : Nat} {X : DataM} (h : EM w B g y S I F nf fs ks W its D ds ls) (hb : Below W.heap.size W Wa) (hrt : RT Wa (daE X v lo hi)) (hlo : W.heap.size ≤ lo)
    (ho : W'.ownsRow w.heap.size 69 7 D' (ds.length + 1) (flatR (RowZ ds ls) ++ dcs X (v, lo, hi))) (hg : Wa.grownBy W' D.ownBlock) : EM w B g y S I F nf fs ks W' its D' (ds ++ [X]) (ls ++ [(v, lo, hi)]) := by
  have ht := h.turn hb
  have hrow := ht.dat.row
  have h8 : B8 Wa W' := B8.of_grown hg hrow (by decide)
  have hsz : Wa.heap.size ≤ W'.heap.size := hg.size
  have erow : RowZ (ds ++ [X]) (ls ++ [(v, lo, hi)]) = RowZ ds ls ++ [daE X v lo hi] := RowZ.snoc h.dat.len X (v, lo, hi)
  refine ⟨ht.box.grownT hg hrow (by decide), own_otherT ht.seqs hg hrow (by decide), ⟨own_otherT ht.its.row hg hrow (by decide), ht.its.rts.turn hsz h8, ht.its.len⟩, own_otherT ht.fnd hg hrow (by decide), ⟨?_, ?_, by simp [h.dat.len]⟩, ht.out.grown hg (Nat.le_trans h.leB ht.out.size) (fun k hk => Nat.le_trans h.leB (own_block hrow hk).1), h.leB, h.apart⟩
  · rw [List.length_append, erow, flatR_app]
    exact ho
  · rw [erow]
    refine RTs.snoc (ht.dat.rts.turn hsz h8) (hrt.turn hsz h8) (by have := h.out.size; show w.heap.size ≤ lo; omega) (fun z hz => by
      have := h.dat.rts.top z hz
      show z.hi ≤ lo
      omega)
/-- All parts of the answer. -/
theorem EM.own (h : EM w B g y S I F nf fs ks W its D ds ls) : OwN B W.heap.size W [.int 0, .int y.Next, .int y.Acked, .is y.Seqs, st_SendItem its, st_Data ds, .bool false] [.int .i64 0, .int .i64 y.Next, .int .i64 y.Acked, S, I, D, .bool false] := by
  have hd : LZ W B D ds ls := ⟨own_monoT h.dat.row h.leB, ⟨fun x hx => ⟨(h.dat.rts.1 x hx).1, Nat.le_trans h.leB (h.dat.rts.1 x hx).2⟩, h.dat.rts.2⟩, h.dat.len⟩
  refine res_own 0 y.Next y.Acked false h.seqs h.its hd (fun x hx z hz => .inl ?_)
  obtain ⟨k, hk, e⟩ := rowI_hi x hx
  have h1 := h.apart k hk
  have h2 := (h.dat.rts.1 z hz).2
  omega
theorem SZ.kstop {W : World} {B0 B : Nat} {v : Value} {r : List SendItemM} {ks : List (Value × Nat × Nat)} (h : SZ W B0 B v r ks) : ∀ k ∈ ks, k.2.2 ≤ W.heap.size := fun k hk => by
  obtain ⟨x, hx, e⟩ := rowI_ks h.len k hk
  have := h.rts.top x hx
  omega
end
end Go.Proofs.Ythljdikcpdokdaa
