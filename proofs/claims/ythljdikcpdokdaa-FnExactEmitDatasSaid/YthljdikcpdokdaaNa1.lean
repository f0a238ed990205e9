import Derived.Test.YthljdikcpdokdaaNa0

/- Values of any type as trees: 'reads as' (Rd), 'is owned' (Ow), 'is marked' (mkv, mkc), one notion for every struct and every slice. -/
namespace Go.Proofs.Ythljdikcpdokdaa
open Go.RowKit Go.Deep

/-- A value of one cell: a number, a bool, a slice of bytes, a slice of int64s, a slice of n structs (their cells in a row). -/
inductive V where
  | int (n : Int)
  | bool (b : Bool)
  | bs (l : List Int)
  | is (l : List Int)
  | st (n : Nat) (xs : List V)
abbrev Fp := Nat → Nat → Prop
def Caps (n c : Nat) : Prop := n ≤ c ∧ (c : Int) ≤ 9223372036854775807
theorem Caps.len {n c : Nat} (h : Caps n c) : (n : Int) ≤ 9223372036854775807 := by have := h.1; have := h.2; omega
theorem Caps.same {n : Nat} (h : (n : Int) ≤ 9223372036854775807) : Caps n n := ⟨Nat.le_refl _, h⟩
mutual
/-- The value v reads as x. -/
def Rd (w : World) : V → Value → Prop
  | .int n, v => v = .int .i64 n
  | .bool b, v => v = .bool b
  | .bs l, v => ∃ A c, v = .slice A l.length c ∧ Caps l.length c ∧ Bs w A l
  | .is l, v => ∃ A c, v = .slice A l.length c ∧ Caps l.length c ∧ Is w A l
  | .st n xs, v => ∃ A c, v = .slice A n c ∧ Caps n c ∧ ((n = 0 ∧ xs = []) ∨ ∃ g o, A = some ⟨g, o, none⟩ ∧ g < w.heap.size ∧ RdL w xs g o)
/-- The cells from o on read as xs. -/
def RdL (w : World) : List V → Nat → Nat → Prop
  | [], _, _ => True
  | x :: xs, g, o => (∃ u, w.cell? ⟨g, o, none⟩ = some u ∧ Rd w x u) ∧ RdL w xs g (o + 1)
end
/-- A struct's fields by value. -/
def RdA (w : World) : List V → List Value → Prop
  | [], [] => True
  | x :: xs, v :: vs => Rd w x v ∧ RdA w xs vs
  | _, _ => False
mutual
theorem Rd.below {w w' : World} (hb : Below w.heap.size w w') : ∀ (x : V) {v : Value}, Rd w x v → Rd w' x v
  | .int _, _, h => by unfold Rd at h ⊢; exact h
  | .bool _, _, h => by unfold Rd at h ⊢; exact h
  | .bs l, _, h => by
    unfold Rd at h ⊢
    obtain ⟨A, c, h1, h2, h3⟩ := h
    exact ⟨A, c, h1, h2, bs_below h3 hb⟩
  | .is l, _, h => by
    unfold Rd at h ⊢
    obtain ⟨A, c, h1, h2, h3⟩ := h
    exact ⟨A, c, h1, h2, is_below h3 hb⟩
  | .st n xs, _, h => by
    unfold Rd at h ⊢
    obtain ⟨A, c, h1, h2, h3⟩ := h
    refine ⟨A, c, h1, h2, ?_⟩
    rcases h3 with h3 | ⟨g, o, h4, h5, h6⟩
    · exact .inl h3
    · exact .inr ⟨g, o, h4, Nat.lt_of_lt_of_le h5 hb.size, RdL.below hb xs h5 h6⟩
theorem RdL.below {w w' : World} (hb : Below w.heap.size w w') : ∀ (xs : List V) {g o : Nat}, g < w.heap.size → RdL w xs g o → RdL w' xs g o
  | [], _, _, _, _ => by unfold RdL; trivial
  | x :: xs, g, o, hg, h => by
    unfold RdL at h ⊢
    obtain ⟨⟨u, h1, h2⟩, h3⟩ := h
    exact ⟨⟨u, (hb.cell (p := ⟨g, o, none⟩) hg).trans h1, Rd.below hb x h2⟩, RdL.below hb xs hg h3⟩
end
theorem RdA.below {w w' : World} (hb : Below w.heap.size w w') : ∀ {xs : List V} {vs : List Value}, RdA w xs vs → RdA w' xs vs
  | [], [], _ => by unfold RdA; trivial
  | x :: xs, v :: vs, h => by
    unfold RdA at h ⊢
    exact ⟨Rd.below hb x h.1, RdA.below hb h.2⟩
  | [], _ :: _, h => by unfold RdA at h; exact h.elim
  | _ :: _, [], h => by unfold RdA at h; exact h.elim

def Sub (S T : Fp) : Prop := ∀ g o, S g o → T g o
def Apart (S T : Fp) : Prop := ∀ g o, S g o → T g o → False
theorem Sub.refl (S : Fp) : Sub S S := fun _ _ h => h
theorem Sub.trans {S T U : Fp} (h : Sub S T) (k : Sub T U) : Sub S U := fun g o x => k g o (h g o x)
theorem Apart.symm {S T : Fp} (h : Apart S T) : Apart T S := fun g o x y => h g o y x
theorem Apart.sub {S T S' T' : Fp} (h : Apart S T) (hs : Sub S' S) (ht : Sub T' T) : Apart S' T' := fun g o x y => h g o (hs g o x) (ht g o y)
def Cup (S T : Fp) : Fp := fun g o => S g o ∨ T g o
theorem Sub.cupL (S T : Fp) : Sub S (Cup S T) := fun _ _ h => .inl h
theorem Sub.cupR (S T : Fp) : Sub T (Cup S T) := fun _ _ h => .inr h
def One (g o : Nat) : Fp := fun a b => a = g ∧ b = o

mutual
/-- The value v reads as x; all its cells lie in S, each once, and may be written. -/
def Ow (w : World) : V → Fp → Value → Prop
  | .int n, _, v => v = .int .i64 n
  | .bool b, _, v => v = .bool b
  | .bs l, S, v => ∃ A c, v = .slice A l.length c ∧ Caps l.length c ∧ (l = [] ∨ ∃ g o, A = some ⟨g, o, none⟩ ∧ g < w.heap.size ∧ ∀ j, j < l.length → S g (o + j) ∧ w.cell? ⟨g, o + j, none⟩ = some (.int .u8 (l.getD j 0)) ∧ w.frozen? ⟨g, o + j, none⟩ = false)
  | .is l, S, v => ∃ A c, v = .slice A l.length c ∧ Caps l.length c ∧ (l = [] ∨ ∃ g o, A = some ⟨g, o, none⟩ ∧ g < w.heap.size ∧ ∀ j, j < l.length → S g (o + j) ∧ w.cell? ⟨g, o + j, none⟩ = some (.int .i64 (l.getD j 0)) ∧ w.frozen? ⟨g, o + j, none⟩ = false)
  | .st n xs, S, v => ∃ A c, v = .slice A n c ∧ Caps n c ∧ ((n = 0 ∧ xs = []) ∨ ∃ g o, A = some ⟨g, o, none⟩ ∧ g < w.heap.size ∧ OwL w xs S g o)
def OwL (w : World) : List V → Fp → Nat → Nat → Prop
  | [], _, _, _ => True
  | x :: xs, S, g, o => ∃ (u : Value) (S1 S2 : Fp), w.cell? ⟨g, o, none⟩ = some u ∧ w.frozen? ⟨g, o, none⟩ = false ∧ S g o ∧ Ow w x S1 u ∧ OwL w xs S2 g (o + 1) ∧ Sub S1 S ∧ Sub S2 S ∧ ¬ S1 g o ∧ ¬ S2 g o ∧ Apart S1 S2
end
def OwA (w : World) : List V → Fp → List Value → Prop
  | [], _, [] => True
  | x :: xs, S, v :: vs => ∃ S1 S2 : Fp, Ow w x S1 v ∧ OwA w xs S2 vs ∧ Sub S1 S ∧ Sub S2 S ∧ Apart S1 S2
  | _, _, _ => False

mutual
theorem Ow.rd {w : World} : ∀ (x : V) {S : Fp} {v : Value}, Ow w x S v → Rd w x v
  | .int _, _, _, h => by unfold Ow at h; unfold Rd; exact h
  | .bool _, _, _, h => by unfold Ow at h; unfold Rd; exact h
  | .bs l, S, _, h => by
    unfold Ow at h; unfold Rd
    obtain ⟨A, c, h1, h2, h3⟩ := h
    refine ⟨A, c, h1, h2, ?_⟩
    rcases h3 with h3 | ⟨g, o, h4, h5, h6⟩
    · exact .inl h3
    · exact .inr ⟨g, o, h4, h5, fun j hj => (h6 j hj).2.1⟩
  | .is l, S, _, h => by
    unfold Ow at h; unfold Rd
    obtain ⟨A, c, h1, h2, h3⟩ := h
    refine ⟨A, c, h1, h2, ?_⟩
    rcases h3 with h3 | ⟨g, o, h4, h5, h6⟩
    · exact .inl h3
    · exact .inr ⟨g, o, h4, h5, fun j hj => (h6 j hj).2.1⟩
  | .st n xs, S, _, h => by
    unfold Ow at h; unfold Rd
    obtain ⟨A, c, h1, h2, h3⟩ := h
    refine ⟨A, c, h1, h2, ?_⟩
    rcases h3 with h3 | ⟨g, o, h4, h5, h6⟩
    · exact .inl h3
    · exact .inr ⟨g, o, h4, h5, OwL.rd xs h6⟩
theorem OwL.rd {w : World} : ∀ (xs : List V) {S : Fp} {g o : Nat}, OwL w xs S g o → RdL w xs g o
  | [], _, _, _, _ => by unfold RdL; trivial
  | x :: xs, S, g, o, h => by
    unfold OwL at h; unfold RdL
    obtain ⟨u, S1, S2, h1, _, _, h2, h3, _⟩ := h
    exact ⟨⟨u, h1, Ow.rd x h2⟩, OwL.rd xs h3⟩
end
theorem OwA.rd {w : World} : ∀ {xs : List V} {S : Fp} {vs : List Value}, OwA w xs S vs → RdA w xs vs
  | [], _, [], _ => by unfold RdA; trivial
  | x :: xs, S, v :: vs, h => by
    unfold OwA at h; unfold RdA
    obtain ⟨S1, S2, h1, h2, _⟩ := h
    exact ⟨Ow.rd x h1, OwA.rd h2⟩
  | [], _, _ :: _, h => by unfold OwA at h; exact h.elim
  | _ :: _, _, [], h => by unfold OwA at h; exact h.elim

/-- What was there and lies in S is kept. -/
structure Kept (S : Fp) (w w' : World) : Prop where
  size : w.heap.size ≤ w'.heap.size
  cell : ∀ g o, g < w.heap.size → S g o → w'.cell? ⟨g, o, none⟩ = w.cell? ⟨g, o, none⟩
  frozen : ∀ g o, g < w.heap.size → S g o → w'.frozen? ⟨g, o, none⟩ = w.frozen? ⟨g, o, none⟩
theorem Kept.sub {S T : Fp} {w w' : World} (h : Kept T w w') (hs : Sub S T) : Kept S w w' := ⟨h.size, fun g o hg x => h.cell g o hg (hs g o x), fun g o hg x => h.frozen g o hg (hs g o x)⟩
theorem Kept.of_below {S : Fp} {w w' : World} (hb : Below w.heap.size w w') : Kept S w w' := ⟨hb.size, fun g o hg _ => hb.cell (p := ⟨g, o, none⟩) hg, fun g o hg _ => hb.frozen (p := ⟨g, o, none⟩) hg⟩
theorem Kept.of_win {S : Fp} {B C : Nat} {w w' : World} (h : Win B C w w') (hs : ∀ g o, S g o → g < B ∨ C ≤ g) : Kept S w w' := ⟨h.size, fun g o hg x => h.cell (p := ⟨g, o, none⟩) hg (hs g o x), fun g o hg _ => h.frozen ⟨g, o, none⟩ hg⟩
mutual
theorem Ow.kept {w w' : World} : ∀ (x : V) {S : Fp} {v : Value}, Kept S w w' → Ow w x S v → Ow w' x S v
  | .int _, _, _, _, h => by unfold Ow at h ⊢; exact h
  | .bool _, _, _, _, h => by unfold Ow at h ⊢; exact h
  | .bs l, S, _, k, h => by
    unfold Ow at h ⊢
    obtain ⟨A, c, h1, h2, h3⟩ := h
    refine ⟨A, c, h1, h2, ?_⟩
    rcases h3 with h3 | ⟨g, o, h4, h5, h6⟩
    · exact .inl h3
    · exact .inr ⟨g, o, h4, Nat.lt_of_lt_of_le h5 k.size, fun j hj => ⟨(h6 j hj).1, (k.cell g _ h5 (h6 j hj).1).trans (h6 j hj).2.1, (k.frozen g _ h5 (h6 j hj).1).trans (h6 j hj).2.2⟩⟩
  | .is l, S, _, k, h => by
    unfold Ow at h ⊢
    obtain ⟨A, c, h1, h2, h3⟩ := h
    refine ⟨A, c, h1, h2, ?_⟩
    rcases h3 with h3 | ⟨g, o, h4, h5, h6⟩
    · exact .inl h3
    · exact .inr ⟨g, o, h4, Nat.lt_of_lt_of_le h5 k.size, fun j hj => ⟨(h6 j hj).1, (k.cell g _ h5 (h6 j hj).1).trans (h6 j hj).2.1, (k.frozen g _ h5 (h6 j hj).1).trans (h6 j hj).2.2⟩⟩
  | .st n xs, S, _, k, h => by
    unfold Ow at h ⊢
    obtain ⟨A, c, h1, h2, h3⟩ := h
    refine ⟨A, c, h1, h2, ?_⟩
    rcases h3 with h3 | ⟨g, o, h4, h5, h6⟩
    · exact .inl h3
    · exact .inr ⟨g, o, h4, Nat.lt_of_lt_of_le h5 k.size, OwL.kept xs k h5 h6⟩
theorem OwL.kept {w w' : World} : ∀ (xs : List V) {S : Fp} {g o : Nat}, Kept S w w' → g < w.heap.size → OwL w xs S g o → OwL w' xs S g o
  | [], _, _, _, _, _, _ => by unfold OwL; trivial
  | x :: xs, S, g, o, k, hg, h => by
    unfold OwL at h ⊢
    obtain ⟨u, S1, S2, h1, h2, h3, h4, h5, h6, h7, h8⟩ := h
    exact ⟨u, S1, S2, (k.cell g o hg h3).trans h1, (k.frozen g o hg h3).trans h2, h3, Ow.kept x (k.sub h6) h4, OwL.kept xs (k.sub h7) hg h5, h6, h7, h8⟩
end
theorem OwA.kept {w w' : World} : ∀ {xs : List V} {S : Fp} {vs : List Value}, Kept S w w' → OwA w xs S vs → OwA w' xs S vs
  | [], _, [], _, _ => by unfold OwA; trivial
  | x :: xs, S, v :: vs, k, h => by
    unfold OwA at h ⊢
    obtain ⟨S1, S2, h1, h2, h3, h4, h5⟩ := h
    exact ⟨S1, S2, Ow.kept x (k.sub h3) h1, OwA.kept (k.sub h4) h2, h3, h4, h5⟩
  | [], _, _ :: _, _, h => by unfold OwA at h; exact h.elim
  | _ :: _, _, [], _, h => by unfold OwA at h; exact h.elim
mutual
theorem Ow.sub {w : World} : ∀ (x : V) {S T : Fp} {v : Value}, Sub S T → Ow w x S v → Ow w x T v
  | .int _, _, _, _, _, h => by unfold Ow at h ⊢; exact h
  | .bool _, _, _, _, _, h => by unfold Ow at h ⊢; exact h
  | .bs l, S, T, _, k, h => by
    unfold Ow at h ⊢
    obtain ⟨A, c, h1, h2, h3⟩ := h
    refine ⟨A, c, h1, h2, ?_⟩
    rcases h3 with h3 | ⟨g, o, h4, h5, h6⟩
    · exact .inl h3
    · exact .inr ⟨g, o, h4, h5, fun j hj => ⟨k _ _ (h6 j hj).1, (h6 j hj).2⟩⟩
  | .is l, S, T, _, k, h => by
    unfold Ow at h ⊢
    obtain ⟨A, c, h1, h2, h3⟩ := h
    refine ⟨A, c, h1, h2, ?_⟩
    rcases h3 with h3 | ⟨g, o, h4, h5, h6⟩
    · exact .inl h3
    · exact .inr ⟨g, o, h4, h5, fun j hj => ⟨k _ _ (h6 j hj).1, (h6 j hj).2⟩⟩
  | .st n xs, S, T, _, k, h => by
    unfold Ow at h ⊢
    obtain ⟨A, c, h1, h2, h3⟩ := h
    refine ⟨A, c, h1, h2, ?_⟩
    rcases h3 with h3 | ⟨g, o, h4, h5, h6⟩
    · exact .inl h3
    · exact .inr ⟨g, o, h4, h5, OwL.sub xs k h6⟩
theorem OwL.sub {w : World} : ∀ (xs : List V) {S T : Fp} {g o : Nat}, Sub S T → OwL w xs S g o → OwL w xs T g o
  | [], _, _, _, _, _, _ => by unfold OwL; trivial
  | x :: xs, S, T, g, o, k, h => by
    unfold OwL at h ⊢
    obtain ⟨u, S1, S2, h1, h2, h3, h4, h5, h6, h7, h8⟩ := h
    exact ⟨u, S1, S2, h1, h2, k _ _ h3, h4, h5, h6.trans k, h7.trans k, h8⟩
end
theorem OwA.sub {w : World} : ∀ {xs : List V} {S T : Fp} {vs : List Value}, Sub S T → OwA w xs S vs → OwA w xs T vs
  | [], _, _, [], _, _ => by unfold OwA; trivial
  | x :: xs, S, T, v :: vs, k, h => by
    unfold OwA at h ⊢
    obtain ⟨S1, S2, h1, h2, h3, h4, h5⟩ := h
    exact ⟨S1, S2, h1, h2, h3.trans k, h4.trans k, h5⟩
  | [], _, _, _ :: _, _, h => by unfold OwA at h; exact h.elim
  | _ :: _, _, _, [], _, h => by unfold OwA at h; exact h.elim

/-- Of what was there only what lies in S may have turned; no mark has. -/
structure Chg (S : Fp) (w w' : World) : Prop where
  os : w'.os = w.os
  tape : w'.tape = w.tape
  output : w'.output = w.output
  size : w.heap.size ≤ w'.heap.size
  cell : ∀ g o, g < w.heap.size → ¬ S g o → w'.cell? ⟨g, o, none⟩ = w.cell? ⟨g, o, none⟩
  frozen : ∀ a, a.block < w.heap.size → w'.frozen? a = w.frozen? a
  block : ∀ g, g < w.heap.size → (∀ o, ¬ S g o) → w'.heap[g]? = w.heap[g]?
theorem Chg.refl (S : Fp) (w : World) : Chg S w w := ⟨rfl, rfl, rfl, Nat.le_refl _, fun _ _ _ _ => rfl, fun _ _ => rfl, fun _ _ _ => rfl⟩
theorem Chg.sub {S T : Fp} {w w' : World} (h : Chg S w w') (hs : Sub S T) : Chg T w w' := ⟨h.os, h.tape, h.output, h.size, fun g o hg n => h.cell g o hg (fun x => n (hs g o x)), h.frozen, fun g hg n => h.block g hg (fun o x => n o (hs g o x))⟩
theorem Chg.trans {S : Fp} {a b c : World} (h : Chg S a b) (k : Chg S b c) : Chg S a c :=
  ⟨k.os.trans h.os, k.tape.trans h.tape, k.output.trans h.output, Nat.le_trans h.size k.size, fun g o hg n => (k.cell g o (Nat.lt_of_lt_of_le hg h.size) n).trans (h.cell g o hg n),
   fun x hx => (k.frozen x (Nat.lt_of_lt_of_le hx h.size)).trans (h.frozen x hx), fun g hg n => (k.block g (Nat.lt_of_lt_of_le hg h.size) n).trans (h.block g hg n)⟩
theorem Chg.of_below {S : Fp} {w w' : World} (hb : Below w.heap.size w w') : Chg S w w' := ⟨hb.os, hb.tape, hb.output, hb.size, fun g o hg _ => hb.cell (p := ⟨g, o, none⟩) hg, fun _ ha => hb.frozen ha, fun g hg _ => hb.block g hg⟩
theorem Chg.set (w : World) (g o : Nat) (u : Value) : Chg (One g o) w (w.setCell ⟨g, o, none⟩ u) :=
  ⟨rfl, rfl, rfl, by simp [World.setCell], fun a b _ n => World.cell?_setCell_other _ _ _ _ (fun e => by injection e with e1 e2; exact n ⟨e1.symm, e2.symm⟩), fun _ _ => World.frozen?_setCell _ _ _ _,
   fun a _ n => Below.heap_setCell _ _ _ _ (by show a ≠ g; intro e; exact n o ⟨e, rfl⟩)⟩
theorem Chg.kept {S T : Fp} {w w' : World} (h : Chg S w w') (hs : Apart T S) : Kept T w w' := ⟨h.size, fun g o hg x => h.cell g o hg (fun y => hs g o x y), fun g o hg _ => h.frozen ⟨g, o, none⟩ hg⟩
def In (B C : Nat) (S : Fp) : Prop := ∀ g o, S g o → B ≤ g ∧ g < C
theorem Chg.win {S : Fp} {B C : Nat} {w w' : World} (h : Chg S w w') (hs : In B C S) : Win B C w w' :=
  ⟨h.os, h.tape, h.output, h.size, fun k hk ho => h.block k hk (fun o x => by have := hs k o x; omega), h.frozen⟩
theorem Chg.below {S : Fp} {B C : Nat} {w w' : World} (h : Chg S w w') (hs : In B C S) (hB : B ≤ w.heap.size) : Below B w w' := (h.win hs).below hB

/-- How many numbers a mark takes: of a cell, of a field. -/
def cc : V → Nat
  | .int _ => 1
  | .bool _ => 1
  | .bs l => l.length
  | .is l => l.length
  | .st _ xs => ccL xs
where ccL : List V → Nat
  | [] => 0
  | x :: xs => cc x + ccL xs
def vc : V → Nat
  | .int _ => 0
  | .bool _ => 0
  | x => cc x
def vcA : List V → Nat
  | [] => 0
  | x :: xs => vc x + vcA xs
/-- What is read behind the mark: of a cell, of a field. -/
def mkc (k : Nat) : V → V
  | .int _ => .int (k : Int)
  | .bool _ => .bool (decide ((k : Int) % 3 = 0))
  | .bs l => .bs (marks k l.length)
  | .is l => .is (nums k l.length)
  | .st n xs => .st n (mkL k xs)
where mkL (k : Nat) : List V → List V
  | [] => []
  | x :: xs => mkc k x :: mkL (k + cc x) xs
def mkv (k : Nat) : V → V
  | .int n => .int n
  | .bool b => .bool b
  | x => mkc k x
def mkA (k : Nat) : List V → List V
  | [] => []
  | x :: xs => mkv k x :: mkA (k + vc x) xs
end Go.Proofs.Ythljdikcpdokdaa

/- What PackWord and WordAt answer, the program's and the model's. -/
namespace Go.Proofs.Ythljdikcpdokdaa
open Go.RowKit Go.Deep

/-- The four bytes of a word, the most significant first. -/
def pk (x : Int) : List Int := [x / 16777216, x / 65536 % 256, x / 256 % 256, x % 256]
def packC (x : Int) : Int := if IsW x then 0 else 3
def packL (x : Int) : List Int := if IsW x then pk x else []
/-- What a call that answers a BytesResult leaves: the answer in memory that was not there before. -/
def BRes (w : World) (c : Int) (l : List Int) (e : Ending) (w' : World) : Prop :=
  ∃ A cp, e = .returned (.agg #[.int .i64 c, .slice A l.length cp]) ∧ Ob w.heap.size w'.heap.size w' A l ∧ Below w.heap.size w w' ∧ l.length ≤ cp ∧ (cp : Int) ≤ 9223372036854775807

set_option maxHeartbeats 400000 in
theorem encode_any (x : Int) (w : World) (h1 : 0 ≤ x) (h2 : x ≤ 4294967295) :
    Calls Try.prog 212 #[.int .u32 x] w fun e w' => e = .returned (.agg #[.int .u8 (x / 16777216), .int .u8 (x / 65536 % 256), .int .u8 (x / 256 % 256), .int .u8 (x % 256)]) ∧ w.alloc (.cells #[.int .u8 (x / 16777216), .int .u8 (x / 65536 % 256), .int .u8 (x / 256 % 256), .int .u8 (x % 256)] 249) = w' := by
  go_enter Try.func212, Try.ntmps212
  go_wp2
  exact bodyPost_ret (v := .agg #[.int .u8 (x / 16777216), .int .u8 (x / 65536 % 256), .int .u8 (x / 256 % 256), .int .u8 (x % 256)]) (by simp [results, Try.results212, go_sem]) rfl ⟨rfl, rfl⟩
theorem row4 (w : World) (x : Int) (t : TypeId) : (w.alloc (.cells #[.int .u8 (x / 16777216), .int .u8 (x / 65536 % 256), .int .u8 (x / 256 % 256), .int .u8 (x % 256)] t)).rowIs w.heap.size t 4 (fun j => .int .u8 ((pk x).getD j 0)) :=
  World.rowIs_alloc w _ t _ (fun i hi => by
    have hi : i < 4 := hi
    rcases i with _ | _ | _ | _ | i
    · rfl
    · rfl
    · rfl
    · rfl
    · omega)
theorem bres4 {w0 w : World} (x : Int) (t : TypeId) (b : Nat) (h : Below w0.heap.size w0 w) (hb : b = w.heap.size) :
    BRes w0 0 (pk x) (.returned (.agg #[.int .i64 0, .slice (some ⟨b, 0, none⟩) 4 4])) (w.alloc (.cells #[.int .u8 (x / 16777216), .int .u8 (x / 65536 % 256), .int .u8 (x / 256 % 256), .int .u8 (x % 256)] t)) := by
  subst hb
  have hr := row4 w x t
  exact ⟨_, _, rfl, .inr ⟨_, 0, rfl, h.size, hr.lt, Nat.le_refl _, fun j hj => ⟨by rw [Nat.zero_add]; exact hr.cell hj, by rw [Nat.zero_add]; exact hr.frozen j⟩⟩, bal h _, Nat.le_refl _, by omega⟩
end Go.Proofs.Ythljdikcpdokdaa

/- Copies whose address is left open, for the exact laws. -/
namespace Go.Proofs.Ythljdikcpdokdaa
open Go.RowKit Go.Deep

theorem Ob.upto {B C C' : Nat} {w : World} {A : Option Addr} {l : List Int} (h : Ob B C w A l) (h1 : C ≤ C') (h2 : C' ≤ w.heap.size) : Ob B C' w A l := by
  rcases h with h | ⟨b, off, h1', h2', h3, h4, h5⟩
  · exact .inl h
  · exact .inr ⟨b, off, h1', h2', by omega, h2, h5⟩
theorem Oi.upto {B C C' : Nat} {w : World} {A : Option Addr} {l : List Int} (h : Oi B C w A l) (h1 : C ≤ C') (h2 : C' ≤ w.heap.size) : Oi B C' w A l := by
  rcases h with h | ⟨b, off, h1', h2', h3, h4, h5⟩
  · exact .inl h
  · exact .inr ⟨b, off, h1', h2', by omega, h2, h5⟩
theorem toB' (A : Option Addr) (l : List Int) (c : Nat) (w : World) (hA : Bs w A l) (hm : l.length ≤ 281474976710656) :
    Calls Try.prog 122 #[.slice A l.length c] w fun e w' => ∃ A', e = .returned (.slice A' l.length l.length) ∧ Ob w.heap.size w'.heap.size w' A' l ∧ Below w.heap.size w w' :=
  (toB_any A l c w hA hm).mono fun _ _ h => ⟨_, h.1, h.2.1.upto (by omega) (Nat.le_refl _), h.2.2.1⟩
theorem toI' (A : Option Addr) (l : List Int) (c : Nat) (w : World) (hA : Is w A l) (hm : 8 * l.length ≤ 281474976710656) :
    Calls Try.prog 112 #[.slice A l.length c] w fun e w' => ∃ A', e = .returned (.slice A' l.length l.length) ∧ Oi w.heap.size w'.heap.size w' A' l ∧ Below w.heap.size w w' :=
  (toI_any A l c w hA hm).mono fun _ _ h => ⟨_, h.1, h.2.1.upto (by omega) (Nat.le_refl _), h.2.2.1⟩
end Go.Proofs.Ythljdikcpdokdaa

/- Trees: the leaves' contracts (slices of bytes, of int64s), the steps of a mark over a struct's fields and over a slice's cells, windows, results. -/
namespace Go.Proofs.Ythljdikcpdokdaa
open Go.RowKit Go.Deep

/-! Windows. -/
def Wn (B C : Nat) : Fp := fun g _ => B ≤ g ∧ g < C
theorem Wn.sub {B C B' C' : Nat} (h : B' ≤ B) (k : C ≤ C') : Sub (Wn B C) (Wn B' C') := fun _ _ x => ⟨Nat.le_trans h x.1, Nat.lt_of_lt_of_le x.2 k⟩
theorem Wn.apart {B C B' C' : Nat} (h : C ≤ B') : Apart (Wn B C) (Wn B' C') := fun _ _ x y => by have := x.2; have := y.1; omega
/-- A field owned by the window B to C; the fields of a struct. -/
def OwV (B C : Nat) (w : World) (x : V) (v : Value) : Prop := C ≤ w.heap.size ∧ Ow w x (Wn B C) v
def OwN (B C : Nat) (w : World) (xs : List V) (vs : List Value) : Prop := C ≤ w.heap.size ∧ OwA w xs (Wn B C) vs
theorem OwV.rd {B C : Nat} {w : World} {x : V} {v : Value} (h : OwV B C w x v) : Rd w x v := Ow.rd x h.2
theorem OwN.rd {B C : Nat} {w : World} {xs : List V} {vs : List Value} (h : OwN B C w xs vs) : RdA w xs vs := OwA.rd h.2
theorem OwV.below {B C : Nat} {w w' : World} {x : V} {v : Value} (h : OwV B C w x v) (hb : Below w.heap.size w w') : OwV B C w' x v := ⟨Nat.le_trans h.1 hb.size, Ow.kept x (Kept.of_below hb) h.2⟩
theorem OwN.below {B C : Nat} {w w' : World} {xs : List V} {vs : List Value} (h : OwN B C w xs vs) (hb : Below w.heap.size w w') : OwN B C w' xs vs := ⟨Nat.le_trans h.1 hb.size, OwA.kept (Kept.of_below hb) h.2⟩
theorem OwV.win {B C B' C' : Nat} {w w' : World} {x : V} {v : Value} (h : OwV B C w x v) (hw : Win B' C' w w') (ho : C ≤ B' ∨ C' ≤ B) : OwV B C w' x v := ⟨Nat.le_trans h.1 hw.size, Ow.kept x (Kept.of_win hw (fun g _ y => by have := y.1; have := y.2; omega)) h.2⟩
theorem OwN.win {B C B' C' : Nat} {w w' : World} {xs : List V} {vs : List Value} (h : OwN B C w xs vs) (hw : Win B' C' w w') (ho : C ≤ B' ∨ C' ≤ B) : OwN B C w' xs vs := ⟨Nat.le_trans h.1 hw.size, OwA.kept (Kept.of_win hw (fun g _ y => by have := y.1; have := y.2; omega)) h.2⟩
theorem OwV.mono {B C B' C' : Nat} {w : World} {x : V} {v : Value} (h : OwV B C w x v) (hB : B' ≤ B) (hC : C ≤ C') (hw : C' ≤ w.heap.size) : OwV B' C' w x v := ⟨hw, Ow.sub x (Wn.sub hB hC) h.2⟩
theorem OwN.mono {B C B' C' : Nat} {w : World} {xs : List V} {vs : List Value} (h : OwN B C w xs vs) (hB : B' ≤ B) (hC : C ≤ C') (hw : C' ≤ w.heap.size) : OwN B' C' w xs vs := ⟨hw, OwA.sub (Wn.sub hB hC) h.2⟩
theorem OwN.nil {B C : Nat} {w : World} (h : C ≤ w.heap.size) : OwN B C w [] [] := ⟨h, by unfold OwA; trivial⟩
theorem OwN.int {B C : Nat} {w : World} {xs : List V} {vs : List Value} (n : Int) (h : OwN B C w xs vs) : OwN B C w (.int n :: xs) (.int .i64 n :: vs) :=
  ⟨h.1, by unfold OwA; exact ⟨fun _ _ => False, _, by unfold Ow; rfl, h.2, fun _ _ x => x.elim, Sub.refl _, fun _ _ x => x.elim⟩⟩
theorem OwN.bool {B C : Nat} {w : World} {xs : List V} {vs : List Value} (b : Bool) (h : OwN B C w xs vs) : OwN B C w (.bool b :: xs) (.bool b :: vs) :=
  ⟨h.1, by unfold OwA; exact ⟨fun _ _ => False, _, by unfold Ow; rfl, h.2, fun _ _ x => x.elim, Sub.refl _, fun _ _ x => x.elim⟩⟩
theorem OwN.empty {B C : Nat} (w : World) (h : C ≤ w.heap.size) : OwN B C w [.bs []] [.slice none 0 0] :=
  ⟨h, by unfold OwA; exact ⟨fun _ _ => False, Wn B C, by unfold Ow; exact ⟨none, 0, rfl, ⟨Nat.le_refl _, by simp⟩, .inl rfl⟩, by unfold OwA; trivial, fun _ _ x => x.elim, Sub.refl _, fun _ _ x => x.elim⟩⟩
/-- A field in the lower window, the rest in the upper one; the other way round. -/
theorem OwN.cons {B C D : Nat} {w : World} {x : V} {v : Value} {xs : List V} {vs : List Value} (h : OwV B C w x v) (k : OwN C D w xs vs) (hBC : B ≤ C) (hCD : C ≤ D) : OwN B D w (x :: xs) (v :: vs) :=
  ⟨k.1, by unfold OwA; exact ⟨_, _, h.2, k.2, Wn.sub (Nat.le_refl _) hCD, Wn.sub hBC (Nat.le_refl _), Wn.apart (Nat.le_refl _)⟩⟩
theorem OwN.cons' {B C D : Nat} {w : World} {x : V} {v : Value} {xs : List V} {vs : List Value} (h : OwV C D w x v) (k : OwN B C w xs vs) (hBC : B ≤ C) (hCD : C ≤ D) : OwN B D w (x :: xs) (v :: vs) :=
  ⟨h.1, by unfold OwA; exact ⟨_, _, h.2, k.2, Wn.sub hBC (Nat.le_refl _), Wn.sub (Nat.le_refl _) hCD, (Wn.apart (Nat.le_refl _)).symm⟩⟩
/-- What a call leaves that answers a struct; a slice. -/
def Res (w : World) (xs : List V) (e : Ending) (w' : World) : Prop := ∃ vs : List Value, e = .returned (.agg vs.toArray) ∧ OwN w.heap.size w'.heap.size w' xs vs ∧ Below w.heap.size w w'
def ResV (w : World) (x : V) (e : Ending) (w' : World) : Prop := ∃ v : Value, e = .returned v ∧ OwV w.heap.size w'.heap.size w' x v ∧ Below w.heap.size w w'
theorem Ob.owv {B C : Nat} {w : World} {A : Option Addr} {l : List Int} {c : Nat} (h : Ob B C w A l) (hC : C ≤ w.heap.size) (hc : Caps l.length c) : OwV B C w (.bs l) (.slice A l.length c) := by
  refine ⟨hC, ?_⟩
  unfold Ow
  refine ⟨A, c, rfl, hc, ?_⟩
  rcases h with h | ⟨b, off, h1, h2, h3, h4, h5⟩
  · exact .inl h
  · exact .inr ⟨b, off, h1, by omega, fun j hj => ⟨⟨h2, h3⟩, h5 j hj⟩⟩
theorem Oi.owv {B C : Nat} {w : World} {A : Option Addr} {l : List Int} {c : Nat} (h : Oi B C w A l) (hC : C ≤ w.heap.size) (hc : Caps l.length c) : OwV B C w (.is l) (.slice A l.length c) := by
  refine ⟨hC, ?_⟩
  unfold Ow
  refine ⟨A, c, rfl, hc, ?_⟩
  rcases h with h | ⟨b, off, h1, h2, h3, h4, h5⟩
  · exact .inl h
  · exact .inr ⟨b, off, h1, by omega, fun j hj => ⟨⟨h2, h3⟩, h5 j hj⟩⟩
theorem Rd.bs_mk {w : World} {A : Option Addr} {l : List Int} {c : Nat} (h : Bs w A l) (hc : Caps l.length c) : Rd w (.bs l) (.slice A l.length c) := by unfold Rd; exact ⟨A, c, rfl, hc, h⟩
theorem Rd.is_mk {w : World} {A : Option Addr} {l : List Int} {c : Nat} (h : Is w A l) (hc : Caps l.length c) : Rd w (.is l) (.slice A l.length c) := by unfold Rd; exact ⟨A, c, rfl, hc, h⟩
theorem Rd.bs_out {w : World} {l : List Int} {v : Value} (h : Rd w (.bs l) v) : ∃ A c, v = .slice A l.length c ∧ Caps l.length c ∧ Bs w A l := by unfold Rd at h; exact h
theorem Rd.is_out {w : World} {l : List Int} {v : Value} (h : Rd w (.is l) v) : ∃ A c, v = .slice A l.length c ∧ Caps l.length c ∧ Is w A l := by unfold Rd at h; exact h
theorem Rd.st_out {w : World} {n : Nat} {xs : List V} {v : Value} (h : Rd w (.st n xs) v) : ∃ A c, v = .slice A n c ∧ Caps n c ∧ ((n = 0 ∧ xs = []) ∨ ∃ g o, A = some ⟨g, o, none⟩ ∧ g < w.heap.size ∧ RdL w xs g o) := by unfold Rd at h; exact h
/-- The shape of a struct by value. -/
theorem RdA.int_out {w : World} {n : Int} {xs : List V} {vs : List Value} (h : RdA w (.int n :: xs) vs) : ∃ vs', vs = .int .i64 n :: vs' ∧ RdA w xs vs' := by
  rcases vs with _ | ⟨v, vs⟩
  · unfold RdA at h; exact h.elim
  · unfold RdA Rd at h; exact ⟨vs, by rw [h.1], h.2⟩
theorem RdA.bool_out {w : World} {b : Bool} {xs : List V} {vs : List Value} (h : RdA w (.bool b :: xs) vs) : ∃ vs', vs = .bool b :: vs' ∧ RdA w xs vs' := by
  rcases vs with _ | ⟨v, vs⟩
  · unfold RdA at h; exact h.elim
  · unfold RdA Rd at h; exact ⟨vs, by rw [h.1], h.2⟩
theorem RdA.any_out {w : World} {x : V} {xs : List V} {vs : List Value} (h : RdA w (x :: xs) vs) : ∃ v vs', vs = v :: vs' ∧ Rd w x v ∧ RdA w xs vs' := by
  rcases vs with _ | ⟨v, vs⟩
  · unfold RdA at h; exact h.elim
  · unfold RdA at h; exact ⟨v, vs, rfl, h.1, h.2⟩
theorem RdA.nil_out {w : World} {vs : List Value} (h : RdA w [] vs) : vs = [] := by
  rcases vs with _ | ⟨v, vs⟩
  · rfl
  · unfold RdA at h; exact h.elim
theorem RdA.int_mk {w : World} {n : Int} {xs : List V} {vs : List Value} (h : RdA w xs vs) : RdA w (.int n :: xs) (.int .i64 n :: vs) := by unfold RdA Rd; exact ⟨rfl, h⟩
theorem RdA.bool_mk {w : World} {b : Bool} {xs : List V} {vs : List Value} (h : RdA w xs vs) : RdA w (.bool b :: xs) (.bool b :: vs) := by unfold RdA Rd; exact ⟨rfl, h⟩
theorem RdA.any_mk {w : World} {x : V} {v : Value} {xs : List V} {vs : List Value} (h0 : Rd w x v) (h : RdA w xs vs) : RdA w (x :: xs) (v :: vs) := by unfold RdA; exact ⟨h0, h⟩
theorem RdA.nil_mk {w : World} : RdA w [] [] := by unfold RdA; trivial
/-- A cell of a row. -/
theorem RdL.at {w : World} : ∀ {xs : List V} {g o : Nat}, RdL w xs g o → ∀ (i : Nat) (hi : i < xs.length), ∃ u, w.cell? ⟨g, o + i, none⟩ = some u ∧ Rd w xs[i] u
  | [], _, _, _, i, hi => by simp at hi
  | x :: xs, g, o, h, 0, _ => by unfold RdL at h; simpa using h.1
  | x :: xs, g, o, h, i + 1, hi => by
    unfold RdL at h
    have := RdL.at h.2 i (by simpa using hi)
    simpa [Nat.add_assoc, Nat.add_comm 1 i] using this

/-! How much a size counts. -/
def tot : V → Nat
  | .int _ => 0
  | .bool _ => 0
  | .bs l => l.length
  | .is l => l.length
  | .st n xs => n + totL xs
where totL : List V → Nat
  | [] => 0
  | x :: xs => tot x + totL xs
def SzR' (left : Int) (t : Nat) (z : Int) : Prop := (z = -1 ∨ 0 ≤ z) ∧ z ≤ left ∧ (0 ≤ z → (t : Int) ≤ left - z)
/-- What a mark leaves; what 'held' asks. -/
def MkR (x : V) (S : Fp) (v : Value) (k : Nat) (w : World) (e : Ending) (w' : World) : Prop := e = .returned (.int .i64 ((k + cc x : Nat) : Int)) ∧ Chg S w w' ∧ Ow w' (mkc k x) S v

/-! The steps of a mark over a struct's fields. -/
theorem OwA.step_int {w : World} {n : Int} {xs : List V} {S : Fp} {v : Value} {vs : List Value} (h : OwA w (.int n :: xs) S (v :: vs)) :
    ∃ S2, Sub S2 S ∧ OwA w xs S2 vs ∧ ∀ (w2 : World) (ys : List V), Chg S2 w w2 → OwA w2 ys S2 vs → Chg S w w2 ∧ OwA w2 (.int n :: ys) S (v :: vs) := by
  unfold OwA at h
  obtain ⟨S1, S2, h1, h2, h3, h4, h5⟩ := h
  refine ⟨S2, h4, h2, fun w2 ys hc ho => ⟨hc.sub h4, ?_⟩⟩
  unfold OwA
  refine ⟨S1, S2, ?_, ho, h3, h4, h5⟩
  unfold Ow at h1 ⊢
  exact h1
theorem OwA.step_bool {w : World} {n : Bool} {xs : List V} {S : Fp} {v : Value} {vs : List Value} (h : OwA w (.bool n :: xs) S (v :: vs)) :
    ∃ S2, Sub S2 S ∧ OwA w xs S2 vs ∧ ∀ (w2 : World) (ys : List V), Chg S2 w w2 → OwA w2 ys S2 vs → Chg S w w2 ∧ OwA w2 (.bool n :: ys) S (v :: vs) := by
  unfold OwA at h
  obtain ⟨S1, S2, h1, h2, h3, h4, h5⟩ := h
  refine ⟨S2, h4, h2, fun w2 ys hc ho => ⟨hc.sub h4, ?_⟩⟩
  unfold OwA
  refine ⟨S1, S2, ?_, ho, h3, h4, h5⟩
  unfold Ow at h1 ⊢
  exact h1
theorem OwA.step {w : World} {x y : V} {xs : List V} {S : Fp} {v : Value} {vs : List Value} (h : OwA w (x :: xs) S (v :: vs)) :
    ∃ S1, Sub S1 S ∧ Ow w x S1 v ∧ ∀ (w1 : World), Chg S1 w w1 → Ow w1 y S1 v →
      ∃ S2, Sub S2 S ∧ OwA w1 xs S2 vs ∧ ∀ (w2 : World) (ys : List V), Chg S2 w1 w2 → OwA w2 ys S2 vs → Chg S w w2 ∧ OwA w2 (y :: ys) S (v :: vs) := by
  unfold OwA at h
  obtain ⟨S1, S2, h1, h2, h3, h4, h5⟩ := h
  refine ⟨S1, h3, h1, fun w1 hc ho => ⟨S2, h4, OwA.kept (hc.kept h5.symm) h2, fun w2 ys hc2 ho2 => ⟨(hc.sub h3).trans (hc2.sub h4), ?_⟩⟩⟩
  unfold OwA
  exact ⟨S1, S2, Ow.kept y (hc2.kept h5) ho, ho2, h3, h4, h5⟩
theorem OwA.nil_step {w : World} {S : Fp} (h : OwA w [] S []) : Chg S w w ∧ OwA w [] S [] := ⟨Chg.refl _ _, h⟩

/-! The steps of a mark over a slice's cells: pre is marked, post is not yet. -/
theorem ccL_append (a b : List V) : cc.ccL (a ++ b) = cc.ccL a + cc.ccL b := by
  induction a with
  | nil => simp [cc.ccL]
  | cons x xs ih => simp [cc.ccL, ih]; omega
theorem mkL_append (k : Nat) (a b : List V) : mkc.mkL k (a ++ b) = mkc.mkL k a ++ mkc.mkL (k + cc.ccL a) b := by
  induction a generalizing k with
  | nil => simp [mkc.mkL, cc.ccL]
  | cons x xs ih => simp [mkc.mkL, cc.ccL, ih]; congr 1; omega
theorem mkL_len (k : Nat) (a : List V) : (mkc.mkL k a).length = a.length := by
  induction a generalizing k with
  | nil => simp [mkc.mkL]
  | cons x xs ih => simp [mkc.mkL, ih]
structure MkSt (w0 : World) (S : Fp) (g o k : Nat) (pre post : List V) (w : World) : Prop where
  chg : Chg S w0 w
  lt : g < w.heap.size
  own : ∃ P R : Fp, Apart P R ∧ Sub P S ∧ Sub R S ∧ OwL w (mkc.mkL k pre) P g o ∧ OwL w post R g (o + pre.length)
theorem OwL.snoc {w : World} {x : V} {u : Value} : ∀ {ys : List V} {P S1 : Fp} {g o : Nat}, OwL w ys P g o → w.cell? ⟨g, o + ys.length, none⟩ = some u → w.frozen? ⟨g, o + ys.length, none⟩ = false → Ow w x S1 u → Apart P S1 → Apart P (One g (o + ys.length)) → Apart S1 (One g (o + ys.length)) →
    OwL w (ys ++ [x]) (Cup P (Cup S1 (One g (o + ys.length)))) g o
  | [], P, S1, g, o, _, hc, hf, hx, hp, hq, hr => by
    unfold OwL
    refine ⟨u, S1, fun _ _ => False, by simpa using hc, by simpa using hf, .inr (.inr ⟨rfl, by simp⟩), hx, by unfold OwL; trivial, fun a b h => .inr (.inl h), fun _ _ h => h.elim, fun h => hr g o h ⟨rfl, by simp⟩, fun h => h.elim, fun _ _ _ h => h.elim⟩
  | y :: ys, P, S1, g, o, h, hc, hf, hx, hp, hq, hr => by
    unfold OwL at h
    obtain ⟨v, T1, T2, h1, h2, h3, h4, h5, h6, h7, h8, h9, h10⟩ := h
    have e : o + (y :: ys).length = o + 1 + ys.length := by simp; omega
    rw [e] at hc hf hq hr ⊢
    have ih := OwL.snoc (x := x) (u := u) (S1 := S1) h5 hc hf hx (hp.sub h7 (Sub.refl _)) (hq.sub h7 (Sub.refl _)) hr
    rw [List.cons_append]
    unfold OwL
    refine ⟨v, T1, _, h1, h2, .inl h3, h4, ih, fun a b q => .inl (h6 a b q), fun a b q => ?_, h8, ?_, ?_⟩
    · rcases q with q | q
      · exact .inl (h7 a b q)
      · exact .inr q
    · rintro (q | q | q)
      · exact h9 q
      · exact hp g o h3 q
      · have := q.2; omega
    · intro a b q1 q2
      rcases q2 with q2 | q2 | q2
      · exact h10 a b q1 q2
      · exact hp a b (h6 a b q1) q2
      · exact hq a b (h6 a b q1) q2
/-- A cell of one number, marked. -/
theorem MkSt.cell {w0 w : World} {S : Fp} {g o k : Nat} {pre post : List V} {x : V} (h : MkSt w0 S g o k pre (x :: post) w) {m : Value} (hm : ∀ W, Ow W (mkc (k + cc.ccL pre) x) (fun _ _ => False) m) :
    (∃ u, w.cell? ⟨g, o + pre.length, none⟩ = some u) ∧ w.frozen? ⟨g, o + pre.length, none⟩ = false ∧ MkSt w0 S g o k (pre ++ [x]) post (w.setCell ⟨g, o + pre.length, none⟩ m) := by
  obtain ⟨P, R, h1, h2, h3, h4, h5⟩ := h.own
  unfold OwL at h5
  obtain ⟨u, S1, S2, q1, q2, q3, q4, q5, q6, q7, q8, q9, q10⟩ := h5
  have hs := Chg.set w g (o + pre.length) m
  have hlen : (mkc.mkL k pre).length = pre.length := mkL_len k pre
  have hP1 : Apart P (One g (o + pre.length)) := fun a b x y => h1 a b x (by obtain ⟨rfl, rfl⟩ := y; exact q3)
  refine ⟨⟨u, q1⟩, q2, h.chg.trans (hs.sub (fun a b y => h3 a b (by obtain ⟨rfl, rfl⟩ := y; exact q3))), by simpa [World.setCell] using h.lt, ?_⟩
  refine ⟨Cup P (One g (o + pre.length)), S2, ?_, ?_, q7.trans h3, ?_, ?_⟩
  · intro a b y z
    rcases y with y | y
    · exact h1 a b y (q7 a b z)
    · obtain ⟨rfl, rfl⟩ := y; exact q9 z
  · intro a b y
    rcases y with y | y
    · exact h2 a b y
    · obtain ⟨rfl, rfl⟩ := y; exact h3 _ _ q3
  · rw [mkL_append]
    have k1 : OwL (w.setCell ⟨g, o + pre.length, none⟩ m) (mkc.mkL k pre) P g o := OwL.kept _ (hs.kept hP1) h.lt h4
    have := OwL.snoc (x := mkc (k + cc.ccL pre) x) (u := m) (S1 := fun _ _ => False) k1 (by rw [hlen]; exact World.cell?_setCell_same _ _ _ q1) (by rw [hlen, World.frozen?_setCell]; exact q2) (hm _) (fun _ _ _ y => y.elim) (by rw [hlen]; exact hP1) (fun _ _ y => y.elim)
    rw [hlen] at this
    refine OwL.sub _ ?_ this
    intro a b y
    rcases y with y | y | y
    · exact .inl y
    · exact y.elim
    · exact .inr y
  · have e : o + (pre ++ [x]).length = o + pre.length + 1 := by simp; omega
    rw [e]
    exact OwL.kept _ (hs.kept (fun a b y z => by obtain ⟨rfl, rfl⟩ := z; exact q9 y)) h.lt q5
/-- A cell that holds a slice, marked by a call. -/
theorem MkSt.call {w0 w : World} {S : Fp} {g o k : Nat} {pre post : List V} {x : V} (h : MkSt w0 S g o k pre (x :: post) w) :
    ∃ u S1, w.cell? ⟨g, o + pre.length, none⟩ = some u ∧ Ow w x S1 u ∧ ∀ w1, Chg S1 w w1 → Ow w1 (mkc (k + cc.ccL pre) x) S1 u → MkSt w0 S g o k (pre ++ [x]) post w1 := by
  obtain ⟨P, R, h1, h2, h3, h4, h5⟩ := h.own
  unfold OwL at h5
  obtain ⟨u, S1, S2, q1, q2, q3, q4, q5, q6, q7, q8, q9, q10⟩ := h5
  refine ⟨u, S1, q1, q4, fun w1 hc ho => ?_⟩
  have hlen : (mkc.mkL k pre).length = pre.length := mkL_len k pre
  have hPS : Apart P S1 := h1.sub (Sub.refl _) q6
  have hP1 : Apart P (One g (o + pre.length)) := fun a b x y => h1 a b x (by obtain ⟨rfl, rfl⟩ := y; exact q3)
  refine ⟨h.chg.trans (hc.sub (q6.trans h3)), Nat.lt_of_lt_of_le h.lt hc.size, Cup P (Cup S1 (One g (o + pre.length))), S2, ?_, ?_, q7.trans h3, ?_, ?_⟩
  · intro a b y z
    rcases y with y | y | y
    · exact h1 a b y (q7 a b z)
    · exact q10 a b y z
    · obtain ⟨rfl, rfl⟩ := y; exact q9 z
  · intro a b y
    rcases y with y | y | y
    · exact h2 a b y
    · exact h3 a b (q6 a b y)
    · obtain ⟨rfl, rfl⟩ := y; exact h3 _ _ q3
  · rw [mkL_append]
    have k1 : OwL w1 (mkc.mkL k pre) P g o := OwL.kept _ (hc.kept hPS) h.lt h4
    have := OwL.snoc (x := mkc (k + cc.ccL pre) x) (u := u) (S1 := S1) k1 (by rw [hlen, hc.cell _ _ h.lt q8]; exact q1) (by rw [hlen, hc.frozen ⟨g, _, none⟩ h.lt]; exact q2) ho hPS (by rw [hlen]; exact hP1) (fun a b y z => by obtain ⟨rfl, e⟩ := z; rw [hlen] at e; subst e; exact q8 y)
    rw [hlen] at this
    exact this
  · have e : o + (pre ++ [x]).length = o + pre.length + 1 := by simp; omega
    rw [e]
    exact OwL.kept _ (hc.kept q10.symm) h.lt q5
theorem RdA.hd {w : World} {x : V} {v : Value} {xs : List V} {vs : List Value} (h : RdA w (x :: xs) (v :: vs)) : Rd w x v := by unfold RdA at h; exact h.1
theorem RdA.tl {w : World} {x : V} {v : Value} {xs : List V} {vs : List Value} (h : RdA w (x :: xs) (v :: vs)) : RdA w xs vs := by unfold RdA at h; exact h.2
theorem Rd.bs_sh {w : World} {l : List Int} {v : Value} (h : Rd w (.bs l) v) : ∃ A c, v = .slice A l.length c := by obtain ⟨A, c, h, _⟩ := h.bs_out; exact ⟨A, c, h⟩
theorem Rd.is_sh {w : World} {l : List Int} {v : Value} (h : Rd w (.is l) v) : ∃ A c, v = .slice A l.length c := by obtain ⟨A, c, h, _⟩ := h.is_out; exact ⟨A, c, h⟩
theorem Rd.st_sh {w : World} {n : Nat} {xs : List V} {v : Value} (h : Rd w (.st n xs) v) : ∃ A c, v = .slice A n c := by obtain ⟨A, c, h, _⟩ := h.st_out; exact ⟨A, c, h⟩
/-- A struct within a struct. -/
theorem OwA.app {w : World} : ∀ {xs ys : List V} {S : Fp} {vs us : List Value}, xs.length = vs.length → OwA w (xs ++ ys) S (vs ++ us) → ∃ S1 S2, OwA w xs S1 vs ∧ OwA w ys S2 us ∧ Sub S1 S ∧ Sub S2 S ∧ Apart S1 S2
  | [], ys, S, [], us, _, h => ⟨fun _ _ => False, S, by unfold OwA; trivial, h, fun _ _ x => x.elim, Sub.refl _, fun _ _ x => x.elim⟩
  | x :: xs, ys, S, v :: vs, us, e, h => by
    rw [List.cons_append, List.cons_append] at h
    unfold OwA at h
    obtain ⟨S1, S2, h1, h2, h3, h4, h5⟩ := h
    obtain ⟨T1, T2, k1, k2, k3, k4, k5⟩ := OwA.app (by simpa using e) h2
    refine ⟨Cup S1 T1, T2, ?_, k2, ?_, k4.trans h4, ?_⟩
    · unfold OwA; exact ⟨S1, T1, h1, k1, Sub.cupL _ _, Sub.cupR _ _, h5.sub (Sub.refl _) k3⟩
    · intro a b y; rcases y with y | y
      · exact h3 a b y
      · exact h4 a b (k3 a b y)
    · intro a b y z; rcases y with y | y
      · exact h5 a b y (k4 a b z)
      · exact k5 a b y z
theorem OwA.join {w : World} : ∀ {xs ys : List V} {S S1 S2 : Fp} {vs us : List Value}, OwA w xs S1 vs → OwA w ys S2 us → Sub S1 S → Sub S2 S → Apart S1 S2 → OwA w (xs ++ ys) S (vs ++ us)
  | [], ys, S, S1, S2, [], us, _, h2, _, k2, _ => OwA.sub k2 h2
  | x :: xs, ys, S, S1, S2, v :: vs, us, h, h2, k1, k2, k3 => by
    unfold OwA at h
    obtain ⟨T1, T2, q1, q2, q3, q4, q5⟩ := h
    rw [List.cons_append, List.cons_append]
    unfold OwA
    refine ⟨T1, Cup T2 S2, q1, OwA.join q2 h2 (Sub.cupL _ _) (Sub.cupR _ _) (k3.sub q4 (Sub.refl _)), q3.trans k1, ?_, ?_⟩
    · intro a b y; rcases y with y | y
      · exact k1 a b (q4 a b y)
      · exact k2 a b y
    · intro a b y z; rcases z with z | z
      · exact q5 a b y z
      · exact k3 a b (q3 a b y) z
  | [], _, _, _, _, _ :: _, _, h, _, _, _, _ => by unfold OwA at h; exact h.elim
  | _ :: _, _, _, _, _, [], _, h, _, _, _, _ => by unfold OwA at h; exact h.elim
theorem OwA.step_app {w : World} {xs xs' ys : List V} {S : Fp} {vs us : List Value} (e : xs.length = vs.length) (h : OwA w (xs ++ ys) S (vs ++ us)) :
    ∃ S1, Sub S1 S ∧ OwA w xs S1 vs ∧ ∀ (w1 : World), Chg S1 w w1 → OwA w1 xs' S1 vs →
      ∃ S2, Sub S2 S ∧ OwA w1 ys S2 us ∧ ∀ (w2 : World) (ys' : List V), Chg S2 w1 w2 → OwA w2 ys' S2 us → Chg S w w2 ∧ OwA w2 (xs' ++ ys') S (vs ++ us) := by
  obtain ⟨S1, S2, h1, h2, h3, h4, h5⟩ := OwA.app e h
  refine ⟨S1, h3, h1, fun w1 hc ho => ⟨S2, h4, OwA.kept (hc.kept h5.symm) h2, fun w2 ys' hc2 ho2 => ⟨(hc.sub h3).trans (hc2.sub h4), ?_⟩⟩⟩
  exact OwA.join (OwA.kept (hc2.kept h5) ho) ho2 h3 h4 h5
theorem OwN.app {B C D : Nat} {w : World} {xs ys : List V} {vs us : List Value} (h : OwN B C w xs vs) (k : OwN C D w ys us) (hBC : B ≤ C) (hCD : C ≤ D) : OwN B D w (xs ++ ys) (vs ++ us) :=
  ⟨k.1, OwA.join h.2 k.2 (Wn.sub (Nat.le_refl _) hCD) (Wn.sub hBC (Nat.le_refl _)) (Wn.apart (Nat.le_refl _))⟩
/-- A block with one cell written. -/
theorem Blk.put {w : World} {g : Nat} {t : TypeId} {cs : Array Value} (h : Blk w g t cs) (i : Nat) (u : Value) : Blk (w.setCell ⟨g, i, none⟩ u) g t (cs.setIfInBounds i u) := by
  unfold Blk at h ⊢
  simp [World.setCell, Array.getElem?_modify, h]
theorem Blk.far {w : World} {g : Nat} {t : TypeId} {cs : Array Value} (h : Blk w g t cs) {p : Addr} (hp : p.block ≠ g) (u : Value) : Blk (w.setCell p u) g t cs := (Below.heap_setCell w p u g (fun e => hp e.symm)).trans h
theorem Blk.chg {w w' : World} {g : Nat} {t : TypeId} {cs : Array Value} {S : Fp} (h : Blk w g t cs) (hc : Chg S w w') (hs : Sub S (Wn 0 g)) : Blk w' g t cs := (hc.block g h.lt (fun o x => by have := (hs g o x).2; omega)).trans h
theorem Blk.win2 {B C : Nat} {w w' : World} {g : Nat} {t : TypeId} {cs : Array Value} (h : Blk w g t cs) (hw : Win B C w w') (ho : g < B ∨ C ≤ g) : Blk w' g t cs := (hw.block g h.lt ho).trans h
theorem set_win (w : World) (g i : Nat) (u : Value) : Win g (g + 1) w (w.setCell ⟨g, i, none⟩ u) := (Chg.set w g i u).win (fun a b y => by obtain ⟨rfl, rfl⟩ := y; omega)
theorem vcA_append (a b : List V) : vcA (a ++ b) = vcA a + vcA b := by
  induction a with
  | nil => simp [vcA]
  | cons x xs ih => simp [vcA, ih]; omega
theorem mkA_append (k : Nat) (a b : List V) : mkA k (a ++ b) = mkA k a ++ mkA (k + vcA a) b := by
  induction a generalizing k with
  | nil => simp [mkA, vcA]
  | cons x xs ih => simp [mkA, vcA, ih]; congr 1; omega
end Go.Proofs.Ythljdikcpdokdaa
