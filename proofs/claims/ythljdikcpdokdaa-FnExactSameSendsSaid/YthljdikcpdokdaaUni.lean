/- Values of any type as trees: 'reads as' (Rd), 'is owned' (Ow), 'is marked' (mkv, mkc), one notion for every struct and every slice. -/
import Derived.Test.YthljdikcpdokdaaInts
namespace Go.Proofs.Ythljdikcpdokdaa
open Go.RowKit Go.Deep

/-- A value of one cell: a number, a bool, a slice of bytes, a slice of int64s, a slice of n structs (their cells in a row). -/
inductive V where
  | int (n : Int)
  | bool (b : Bool)
  | bs (l : List Int)
  | is (l : List Int)
  | st (n : Nat) (xs : List V)
abbrev Fp := Nat → Nat → Prop
def Caps (n c : Nat) : Prop := n ≤ c ∧ (c : Int) ≤ 9223372036854775807
theorem Caps.len {n c : Nat} (h : Caps n c) : (n : Int) ≤ 9223372036854775807 := by have := h.1; have := h.2; omega
theorem Caps.same {n : Nat} (h : (n : Int) ≤ 9223372036854775807) : Caps n n := ⟨Nat.le_refl _, h⟩
mutual
/-- The value v reads as x. -/
def Rd (w : World) : V → Value → Prop
  | .int n, v => v = .int .i64 n
  | .bool b, v => v = .bool b
  | .bs l, v => ∃ A c, v = .slice A l.length c ∧ Caps l.length c ∧ Bs w A l
  | .is l, v => ∃ A c, v = .slice A l.length c ∧ Caps l.length c ∧ Is w A l
  | .st n xs, v => ∃ A c, v = .slice A n c ∧ Caps n c ∧ ((n = 0 ∧ xs = []) ∨ ∃ g o, A = some ⟨g, o, none⟩ ∧ g < w.heap.size ∧ RdL w xs g o)
/-- The cells from o on read as xs. -/
def RdL (w : World) : List V → Nat → Nat → Prop
  | [], _, _ => True
  | x :: xs, g, o => (∃ u, w.cell? ⟨g, o, none⟩ = some u ∧ Rd w x u) ∧ RdL w xs g (o + 1)
end
/-- A struct's fields by value. -/
def RdA (w : World) : List V → List Value → Prop
  | [], [] => True
  | x :: xs, v :: vs => Rd w x v ∧ RdA w xs vs
  | _, _ => False
mutual
theorem Rd.below {w w' : World} (hb : Below w.heap.size w w') : ∀ (x : V) {v : Value}, Rd w x v → Rd w' x v
  | .int _, _, h => by unfold Rd at h ⊢; exact h
  | .bool _, _, h => by unfold Rd at h ⊢; exact h
  | .bs l, _, h => by
    unfold Rd at h ⊢
    obtain ⟨A, c, h1, h2, h3⟩ := h
    exact ⟨A, c, h1, h2, bs_below h3 hb⟩
  | .is l, _, h => by
    unfold Rd at h ⊢
    obtain ⟨A, c, h1, h2, h3⟩ := h
    exact ⟨A, c, h1, h2, is_below h3 hb⟩
  | .st n xs, _, h => by
    unfold Rd at h ⊢
    obtain ⟨A, c, h1, h2, h3⟩ := h
    refine ⟨A, c, h1, h2, ?_⟩
    rcases h3 with h3 | ⟨g, o, h4, h5, h6⟩
    · exact .inl h3
    · exact .inr ⟨g, o, h4, Nat.lt_of_lt_of_le h5 hb.size, RdL.below hb xs h5 h6⟩
theorem RdL.below {w w' : World} (hb : Below w.heap.size w w') : ∀ (xs : List V) {g o : Nat}, g < w.heap.size → RdL w xs g o → RdL w' xs g o
  | [], _, _, _, _ => by unfold RdL; trivial
  | x :: xs, g, o, hg, h => by
    unfold RdL at h ⊢
    obtain ⟨⟨u, h1, h2⟩, h3⟩ := h
    exact ⟨⟨u, (hb.cell (p := ⟨g, o, none⟩) hg).trans h1, Rd.below hb x h2⟩, RdL.below hb xs hg h3⟩
end
theorem RdA.below {w w' : World} (hb : Below w.heap.size w w') : ∀ {xs : List V} {vs : List Value}, RdA w xs vs → RdA w' xs vs
  | [], [], _ => by unfold RdA; trivial
  | x :: xs, v :: vs, h => by
    unfold RdA at h ⊢
    exact ⟨Rd.below hb x h.1, RdA.below hb h.2⟩
  | [], _ :: _, h => by unfold RdA at h; exact h.elim
  | _ :: _, [], h => by unfold RdA at h; exact h.elim

def Sub (S T : Fp) : Prop := ∀ g o, S g o → T g o
def Apart (S T : Fp) : Prop := ∀ g o, S g o → T g o → False
theorem Sub.refl (S : Fp) : Sub S S := fun _ _ h => h
theorem Sub.trans {S T U : Fp} (h : Sub S T) (k : Sub T U) : Sub S U := fun g o x => k g o (h g o x)
theorem Apart.symm {S T : Fp} (h : Apart S T) : Apart T S := fun g o x y => h g o y x
theorem Apart.sub {S T S' T' : Fp} (h : Apart S T) (hs : Sub S' S) (ht : Sub T' T) : Apart S' T' := fun g o x y => h g o (hs g o x) (ht g o y)
def Cup (S T : Fp) : Fp := fun g o => S g o ∨ T g o
theorem Sub.cupL (S T : Fp) : Sub S (Cup S T) := fun _ _ h => .inl h
theorem Sub.cupR (S T : Fp) : Sub T (Cup S T) := fun _ _ h => .inr h
def One (g o : Nat) : Fp := fun a b => a = g ∧ b = o

mutual
/-- The value v reads as x; all its cells lie in S, each once, and may be written. -/
def Ow (w : World) : V → Fp → Value → Prop
  | .int n, _, v => v = .int .i64 n
  | .bool b, _, v => v = .bool b
  | .bs l, S, v => ∃ A c, v = .slice A l.length c ∧ Caps l.length c ∧ (l = [] ∨ ∃ g o, A = some ⟨g, o, none⟩ ∧ g < w.heap.size ∧ ∀ j, j < l.length → S g (o + j) ∧ w.cell? ⟨g, o + j, none⟩ = some (.int .u8 (l.getD j 0)) ∧ w.frozen? ⟨g, o + j, none⟩ = false)
  | .is l, S, v => ∃ A c, v = .slice A l.length c ∧ Caps l.length c ∧ (l = [] ∨ ∃ g o, A = some ⟨g, o, none⟩ ∧ g < w.heap.size ∧ ∀ j, j < l.length → S g (o + j) ∧ w.cell? ⟨g, o + j, none⟩ = some (.int .i64 (l.getD j 0)) ∧ w.frozen? ⟨g, o + j, none⟩ = false)
  | .st n xs, S, v => ∃ A c, v = .slice A n c ∧ Caps n c ∧ ((n = 0 ∧ xs = []) ∨ ∃ g o, A = some ⟨g, o, none⟩ ∧ g < w.heap.size ∧ OwL w xs S g o)
def OwL (w : World) : List V → Fp → Nat → Nat → Prop
  | [], _, _, _ => True
  | x :: xs, S, g, o => ∃ (u : Value) (S1 S2 : Fp), w.cell? ⟨g, o, none⟩ = some u ∧ w.frozen? ⟨g, o, none⟩ = false ∧ S g o ∧ Ow w x S1 u ∧ OwL w xs S2 g (o + 1) ∧ Sub S1 S ∧ Sub S2 S ∧ ¬ S1 g o ∧ ¬ S2 g o ∧ Apart S1 S2
end
def OwA (w : World) : List V → Fp → List Value → Prop
  | [], _, [] => True
  | x :: xs, S, v :: vs => ∃ S1 S2 : Fp, Ow w x S1 v ∧ OwA w xs S2 vs ∧ Sub S1 S ∧ Sub S2 S ∧ Apart S1 S2
  | _, _, _ => False

mutual
theorem Ow.rd {w : World} : ∀ (x : V) {S : Fp} {v : Value}, Ow w x S v → Rd w x v
  | .int _, _, _, h => by unfold Ow at h; unfold Rd; exact h
  | .bool _, _, _, h => by unfold Ow at h; unfold Rd; exact h
  | .bs l, S, _, h => by
    unfold Ow at h; unfold Rd
    obtain ⟨A, c, h1, h2, h3⟩ := h
    refine ⟨A, c, h1, h2, ?_⟩
    rcases h3 with h3 | ⟨g, o, h4, h5, h6⟩
    · exact .inl h3
    · exact .inr ⟨g, o, h4, h5, fun j hj => (h6 j hj).2.1⟩
  | .is l, S, _, h => by
    unfold Ow at h; unfold Rd
    obtain ⟨A, c, h1, h2, h3⟩ := h
    refine ⟨A, c, h1, h2, ?_⟩
    rcases h3 with h3 | ⟨g, o, h4, h5, h6⟩
    · exact .inl h3
    · exact .inr ⟨g, o, h4, h5, fun j hj => (h6 j hj).2.1⟩
  | .st n xs, S, _, h => by
    unfold Ow at h; unfold Rd
    obtain ⟨A, c, h1, h2, h3⟩ := h
    refine ⟨A, c, h1, h2, ?_⟩
    rcases h3 with h3 | ⟨g, o, h4, h5, h6⟩
    · exact .inl h3
    · exact .inr ⟨g, o, h4, h5, OwL.rd xs h6⟩
theorem OwL.rd {w : World} : ∀ (xs : List V) {S : Fp} {g o : Nat}, OwL w xs S g o → RdL w xs g o
  | [], _, _, _, _ => by unfold RdL; trivial
  | x :: xs, S, g, o, h => by
    unfold OwL at h; unfold RdL
    obtain ⟨u, S1, S2, h1, _, _, h2, h3, _⟩ := h
    exact ⟨⟨u, h1, Ow.rd x h2⟩, OwL.rd xs h3⟩
end
theorem OwA.rd {w : World} : ∀ {xs : List V} {S : Fp} {vs : List Value}, OwA w xs S vs → RdA w xs vs
  | [], _, [], _ => by unfold RdA; trivial
  | x :: xs, S, v :: vs, h => by
    unfold OwA at h; unfold RdA
    obtain ⟨S1, S2, h1, h2, _⟩ := h
    exact ⟨Ow.rd x h1, OwA.rd h2⟩
  | [], _, _ :: _, h => by unfold OwA at h; exact h.elim
  | _ :: _, _, [], h => by unfold OwA at h; exact h.elim

/-- What was there and lies in S is kept. -/
structure Kept (S : Fp) (w w' : World) : Prop where
  size : w.heap.size ≤ w'.heap.size
  cell : ∀ g o, g < w.heap.size → S g o → w'.cell? ⟨g, o, none⟩ = w.cell? ⟨g, o, none⟩
  frozen : ∀ g o, g < w.heap.size → S g o → w'.frozen? ⟨g, o, none⟩ = w.frozen? ⟨g, o, none⟩
theorem Kept.sub {S T : Fp} {w w' : World} (h : Kept T w w') (hs : Sub S T) : Kept S w w' := ⟨h.size, fun g o hg x => h.cell g o hg (hs g o x), fun g o hg x => h.frozen g o hg (hs g o x)⟩
theorem Kept.of_below {S : Fp} {w w' : World} (hb : Below w.heap.size w w') : Kept S w w' := ⟨hb.size, fun g o hg _ => hb.cell (p := ⟨g, o, none⟩) hg, fun g o hg _ => hb.frozen (p := ⟨g, o, none⟩) hg⟩
theorem Kept.of_win {S : Fp} {B C : Nat} {w w' : World} (h : Win B C w w') (hs : ∀ g o, S g o → g < B ∨ C ≤ g) : Kept S w w' := ⟨h.size, fun g o hg x => h.cell (p := ⟨g, o, none⟩) hg (hs g o x), fun g o hg _ => h.frozen ⟨g, o, none⟩ hg⟩
mutual
theorem Ow.kept {w w' : World} : ∀ (x : V) {S : Fp} {v : Value}, Kept S w w' → Ow w x S v → Ow w' x S v
  | .int _, _, _, _, h => by unfold Ow at h ⊢; exact h
  | .bool _, _, _, _, h => by unfold Ow at h ⊢; exact h
  | .bs l, S, _, k, h => by
    unfold Ow at h ⊢
    obtain ⟨A, c, h1, h2, h3⟩ := h
    refine ⟨A, c, h1, h2, ?_⟩
    rcases h3 with h3 | ⟨g, o, h4, h5, h6⟩
    · exact .inl h3
    · exact .inr ⟨g, o, h4, Nat.lt_of_lt_of_le h5 k.size, fun j hj => ⟨(h6 j hj).1, (k.cell g _ h5 (h6 j hj).1).trans (h6 j hj).2.1, (k.frozen g _ h5 (h6 j hj).1).trans (h6 j hj).2.2⟩⟩
  | .is l, S, _, k, h => by
    unfold Ow at h ⊢
    obtain ⟨A, c, h1, h2, h3⟩ := h
    refine ⟨A, c, h1, h2, ?_⟩
    rcases h3 with h3 | ⟨g, o, h4, h5, h6⟩
    · exact .inl h3
    · exact .inr ⟨g, o, h4, Nat.lt_of_lt_of_le h5 k.size, fun j hj => ⟨(h6 j hj).1, (k.cell g _ h5 (h6 j hj).1).trans (h6 j hj).2.1, (k.frozen g _ h5 (h6 j hj).1).trans (h6 j hj).2.2⟩⟩
  | .st n xs, S, _, k, h => by
    unfold Ow at h ⊢
    obtain ⟨A, c, h1, h2, h3⟩ := h
    refine ⟨A, c, h1, h2, ?_⟩
    rcases h3 with h3 | ⟨g, o, h4, h5, h6⟩
    · exact .inl h3
    · exact .inr ⟨g, o, h4, Nat.lt_of_lt_of_le h5 k.size, OwL.kept xs k h5 h6⟩
theorem OwL.kept {w w' : World} : ∀ (xs : List V) {S : Fp} {g o : Nat}, Kept S w w' → g < w.heap.size → OwL w xs S g o → OwL w' xs S g o
  | [], _, _, _, _, _, _ => by unfold OwL; trivial
  | x :: xs, S, g, o, k, hg, h => by
    unfold OwL at h ⊢
    obtain ⟨u, S1, S2, h1, h2, h3, h4, h5, h6, h7, h8⟩ := h
    exact ⟨u, S1, S2, (k.cell g o hg h3).trans h1, (k.frozen g o hg h3).trans h2, h3, Ow.kept x (k.sub h6) h4, OwL.kept xs (k.sub h7) hg h5, h6, h7, h8⟩
end
theorem OwA.kept {w w' : World} : ∀ {xs : List V} {S : Fp} {vs : List Value}, Kept S w w' → OwA w xs S vs → OwA w' xs S vs
  | [], _, [], _, _ => by unfold OwA; trivial
  | x :: xs, S, v :: vs, k, h => by
    unfold OwA at h ⊢
    obtain ⟨S1, S2, h1, h2, h3, h4, h5⟩ := h
    exact ⟨S1, S2, Ow.kept x (k.sub h3) h1, OwA.kept (k.sub h4) h2, h3, h4, h5⟩
  | [], _, _ :: _, _, h => by unfold OwA at h; exact h.elim
  | _ :: _, _, [], _, h => by unfold OwA at h; exact h.elim
mutual
theorem Ow.sub {w : World} : ∀ (x : V) {S T : Fp} {v : Value}, Sub S T → Ow w x S v → Ow w x T v
  | .int _, _, _, _, _, h => by unfold Ow at h ⊢; exact h
  | .bool _, _, _, _, _, h => by unfold Ow at h ⊢; exact h
  | .bs l, S, T, _, k, h => by
    unfold Ow at h ⊢
    obtain ⟨A, c, h1, h2, h3⟩ := h
    refine ⟨A, c, h1, h2, ?_⟩
    rcases h3 with h3 | ⟨g, o, h4, h5, h6⟩
    · exact .inl h3
    · exact .inr ⟨g, o, h4, h5, fun j hj => ⟨k _ _ (h6 j hj).1, (h6 j hj).2⟩⟩
  | .is l, S, T, _, k, h => by
    unfold Ow at h ⊢
    obtain ⟨A, c, h1, h2, h3⟩ := h
    refine ⟨A, c, h1, h2, ?_⟩
    rcases h3 with h3 | ⟨g, o, h4, h5, h6⟩
    · exact .inl h3
    · exact .inr ⟨g, o, h4, h5, fun j hj => ⟨k _ _ (h6 j hj).1, (h6 j hj).2⟩⟩
  | .st n xs, S, T, _, k, h => by
    unfold Ow at h ⊢
    obtain ⟨A, c, h1, h2, h3⟩ := h
    refine ⟨A, c, h1, h2, ?_⟩
    rcases h3 with h3 | ⟨g, o, h4, h5, h6⟩
    · exact .inl h3
    · exact .inr ⟨g, o, h4, h5, OwL.sub xs k h6⟩
theorem OwL.sub {w : World} : ∀ (xs : List V) {S T : Fp} {g o : Nat}, Sub S T → OwL w xs S g o → OwL w xs T g o
  | [], _, _, _, _, _, _ => by unfold OwL; trivial
  | x :: xs, S, T, g, o, k, h => by
    unfold OwL at h ⊢
    obtain ⟨u, S1, S2, h1, h2, h3, h4, h5, h6, h7, h8⟩ := h
    exact ⟨u, S1, S2, h1, h2, k _ _ h3, h4, h5, h6.trans k, h7.trans k, h8⟩
end
theorem OwA.sub {w : World} : ∀ {xs : List V} {S T : Fp} {vs : List Value}, Sub S T → OwA w xs S vs → OwA w xs T vs
  | [], _, _, [], _, _ => by unfold OwA; trivial
  | x :: xs, S, T, v :: vs, k, h => by
    unfold OwA at h ⊢
    obtain ⟨S1, S2, h1, h2, h3, h4, h5⟩ := h
    exact ⟨S1, S2, h1, h2, h3.trans k, h4.trans k, h5⟩
  | [], _, _, _ :: _, _, h => by unfold OwA at h; exact h.elim
  | _ :: _, _, _, [], _, h => by unfold OwA at h; exact h.elim

/-- Of what was there only what lies in S may have turned; no mark has. -/
structure Chg (S : Fp) (w w' : World) : Prop where
  os : w'.os = w.os
  tape : w'.tape = w.tape
  output : w'.output = w.output
  size : w.heap.size ≤ w'.heap.size
  cell : ∀ g o, g < w.heap.size → ¬ S g o → w'.cell? ⟨g, o, none⟩ = w.cell? ⟨g, o, none⟩
  frozen : ∀ a, a.block < w.heap.size → w'.frozen? a = w.frozen? a
  block : ∀ g, g < w.heap.size → (∀ o, ¬ S g o) → w'.heap[g]? = w.heap[g]?
theorem Chg.refl (S : Fp) (w : World) : Chg S w w := ⟨rfl, rfl, rfl, Nat.le_refl _, fun _ _ _ _ => rfl, fun _ _ => rfl, fun _ _ _ => rfl⟩
theorem Chg.sub {S T : Fp} {w w' : World} (h : Chg S w w') (hs : Sub S T) : Chg T w w' := ⟨h.os, h.tape, h.output, h.size, fun g o hg n => h.cell g o hg (fun x => n (hs g o x)), h.frozen, fun g hg n => h.block g hg (fun o x => n o (hs g o x))⟩
theorem Chg.trans {S : Fp} {a b c : World} (h : Chg S a b) (k : Chg S b c) : Chg S a c :=
  ⟨k.os.trans h.os, k.tape.trans h.tape, k.output.trans h.output, Nat.le_trans h.size k.size, fun g o hg n => (k.cell g o (Nat.lt_of_lt_of_le hg h.size) n).trans (h.cell g o hg n),
   fun x hx => (k.frozen x (Nat.lt_of_lt_of_le hx h.size)).trans (h.frozen x hx), fun g hg n => (k.block g (Nat.lt_of_lt_of_le hg h.size) n).trans (h.block g hg n)⟩
theorem Chg.of_below {S : Fp} {w w' : World} (hb : Below w.heap.size w w') : Chg S w w' := ⟨hb.os, hb.tape, hb.output, hb.size, fun g o hg _ => hb.cell (p := ⟨g, o, none⟩) hg, fun _ ha => hb.frozen ha, fun g hg _ => hb.block g hg⟩
theorem Chg.set (w : World) (g o : Nat) (u : Value) : Chg (One g o) w (w.setCell ⟨g, o, none⟩ u) :=
  ⟨rfl, rfl, rfl, by simp [World.setCell], fun a b _ n => World.cell?_setCell_other _ _ _ _ (fun e => by injection e with e1 e2; exact n ⟨e1.symm, e2.symm⟩), fun _ _ => World.frozen?_setCell _ _ _ _,
   fun a _ n => Below.heap_setCell _ _ _ _ (by show a ≠ g; intro e; exact n o ⟨e, rfl⟩)⟩
theorem Chg.kept {S T : Fp} {w w' : World} (h : Chg S w w') (hs : Apart T S) : Kept T w w' := ⟨h.size, fun g o hg x => h.cell g o hg (fun y => hs g o x y), fun g o hg _ => h.frozen ⟨g, o, none⟩ hg⟩
def In (B C : Nat) (S : Fp) : Prop := ∀ g o, S g o → B ≤ g ∧ g < C
theorem Chg.win {S : Fp} {B C : Nat} {w w' : World} (h : Chg S w w') (hs : In B C S) : Win B C w w' :=
  ⟨h.os, h.tape, h.output, h.size, fun k hk ho => h.block k hk (fun o x => by have := hs k o x; omega), h.frozen⟩
theorem Chg.below {S : Fp} {B C : Nat} {w w' : World} (h : Chg S w w') (hs : In B C S) (hB : B ≤ w.heap.size) : Below B w w' := (h.win hs).below hB

/-- How many numbers a mark takes: of a cell, of a field. -/
def cc : V → Nat
  | .int _ => 1
  | .bool _ => 1
  | .bs l => l.length
  | .is l => l.length
  | .st _ xs => ccL xs
where ccL : List V → Nat
  | [] => 0
  | x :: xs => cc x + ccL xs
def vc : V → Nat
  | .int _ => 0
  | .bool _ => 0
  | x => cc x
def vcA : List V → Nat
  | [] => 0
  | x :: xs => vc x + vcA xs
/-- What is read behind the mark: of a cell, of a field. -/
def mkc (k : Nat) : V → V
  | .int _ => .int (k : Int)
  | .bool _ => .bool (decide ((k : Int) % 3 = 0))
  | .bs l => .bs (marks k l.length)
  | .is l => .is (nums k l.length)
  | .st n xs => .st n (mkL k xs)
where mkL (k : Nat) : List V → List V
  | [] => []
  | x :: xs => mkc k x :: mkL (k + cc x) xs
def mkv (k : Nat) : V → V
  | .int n => .int n
  | .bool b => .bool b
  | x => mkc k x
def mkA (k : Nat) : List V → List V
  | [] => []
  | x :: xs => mkv k x :: mkA (k + vc x) xs
end Go.Proofs.Ythljdikcpdokdaa
