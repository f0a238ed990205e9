import Derived.Test.YthljdikcpdokdaaNa9
import Derived.Test.YthljdikcpdokdaaNb0
import Derived.Test.YthljdikcpdokdaaNa5

/- Chapter 5 on numbers: reading: what each reader answers; greetings. -/
namespace Go.Proofs.Ythljdikcpdokdaa
open Go.RowKit Go.Deep

/-- The fault of a greeting's addresses, of a greeting; its chunk. -/
def adF : List Int → List Int → Int
  | _, [] => 0
  | s, x :: r => if inB x 1 255 then (if x ∈ s then 6 else adF (s ++ [x]) r) else 3
def inF (y : InitM) : Int := if inB y.Tag 1 4294967295 && wB y.Tsn then (if y.Random.length = 16 ∧ 1 ≤ y.Addrs.length ∧ y.Addrs.length ≤ 5 then (if adF [] y.Addrs = 0 then (if y.Cookie.length ≤ 100 then 0 else 2) else adF [] y.Addrs) else 2) else 3
def piF (y : InitM) (k : Int) : Int := if k = 1 ∨ k = 2 then inF y else 3
def inL (y : InitM) : List Int := pk y.Tag ++ pk y.Tsn ++ y.Random ++ ((y.Addrs.length : Int) :: y.Addrs) ++ [(y.Cookie.length : Int)] ++ y.Cookie
def piC (y : InitM) (k : Int) : ChunkM := ⟨k, 0, inL y⟩
def piR (y : InitM) (k : Int) : ChunkResultM := crOf (piF y k) (piC y k)
theorem adF_zero : ∀ (r s : List Int), adF s r = 0 → ∀ x ∈ r, 1 ≤ x ∧ x ≤ 255
  | [], _, _, _, h => by simp at h
  | x :: r, s, h, z, hz => by
    unfold adF at h
    split at h
    · next h1 =>
      simp [inB] at h1
      split at h
      · omega
      · rcases List.mem_cons.1 hz with rfl | hz
        · exact h1
        · exact adF_zero r _ h z hz
    · omega
theorem inF_zero {y : InitM} (h : inF y = 0) : (1 ≤ y.Tag ∧ y.Tag ≤ 4294967295) ∧ (0 ≤ y.Tsn ∧ y.Tsn ≤ 4294967295) ∧ (y.Random.length = 16 ∧ 1 ≤ y.Addrs.length ∧ y.Addrs.length ≤ 5) ∧ adF [] y.Addrs = 0 ∧ y.Cookie.length ≤ 100 := by
  unfold inF wB inB at h
  split at h
  · next h1 =>
    simp only [Bool.and_eq_true, decide_eq_true_eq] at h1
    split at h
    · next h2 =>
      split at h
      · next h3 =>
        split at h
        · next h4 => exact ⟨h1.1, h1.2, h2, h3, h4⟩
        · omega
      · next h3 => exact absurd h h3
    · omega
  · omega
theorem piF_zero {y : InitM} {k : Int} (h : piF y k = 0) : (k = 1 ∨ k = 2) ∧ inF y = 0 := by
  unfold piF at h
  split at h
  · next h1 => exact ⟨h1, h⟩
  · omega
theorem crOf_zero (c : ChunkM) : crOf 0 c = ⟨0, c.Kind, c.Flags, c.Body⟩ := rfl
theorem isM_iff (x : ChunkM) (f : Int) (c : ChunkM) : isM x (crOf f c) = true ↔ f = 0 ∧ x = c := by
  unfold isM crOf
  split
  · next h => cases x; cases c; simp [h, and_assoc]
  · next h => simp [h]

/-! Reading. -/
def pairAt (l : List Int) (k : Nat) : Int := l.getD k 0 * 256 + l.getD (k + 1) 0
theorem atW_pk {n : Int} (_h0 : 0 ≤ n) (_h1 : n ≤ 4294967295) (r : List Int) : atW (pk n ++ r) 0 = n := by simp [atW, pk]; omega
theorem pairAt_pairL (n : Int) (r : List Int) : pairAt (pairL n ++ r) 0 = n := by simp [pairAt, pairL]; omega
theorem getD_drop (l : List Int) (i k : Nat) : l.getD (i + k) 0 = (l.drop i).getD k 0 := by simp [List.getD_eq_getElem?_getD, List.getElem?_drop]
theorem atW_drop (l : List Int) (i : Nat) : atW l i = atW (l.drop i) 0 := by
  unfold atW; rw [← getD_drop, ← getD_drop, ← getD_drop, ← getD_drop]; simp
theorem pairAt_drop (l : List Int) (i : Nat) : pairAt l i = pairAt (l.drop i) 0 := by
  unfold pairAt; rw [← getD_drop, ← getD_drop]; simp
theorem drop_pk (n : Int) (r : List Int) : (pk n ++ r).drop 4 = r := by simp [pk]
theorem len_pk (n : Int) : (pk n).length = 4 := rfl
theorem len_pairL (n : Int) : (pairL n).length = 2 := rfl
/-- A data out of a chunk's flags and body. -/
def rdatV (f : Int) (L : List Int) : DataM := ⟨atW L 0, pairAt L 4, pairAt L 6, decide (f / 2 % 2 = 1), decide (f % 2 = 1), decide (f / 4 % 2 = 1), L.drop 8⟩
theorem rdat_ok {y : DataM} (h : pdF y = 0) : 8 ≤ (pdC y).Body.length ∧ rdatV (pdC y).Flags (pdC y).Body = y := by
  obtain ⟨⟨a1, a2⟩, ⟨b1, b2⟩, ⟨c1, c2⟩, d1, d2⟩ := pdF_zero h
  obtain ⟨t, s, q, f, l, u, p⟩ := y
  simp only at *
  refine ⟨by simp [pdC, pk, pairL], ?_⟩
  have e0 : atW (pdC ⟨t, s, q, f, l, u, p⟩).Body 0 = t := by simp [atW, pdC, pk]; omega
  have e1 : pairAt (pdC ⟨t, s, q, f, l, u, p⟩).Body 4 = s := by simp [pairAt, pdC, pk, pairL]; omega
  have e2 : pairAt (pdC ⟨t, s, q, f, l, u, p⟩).Body 6 = q := by simp [pairAt, pdC, pk, pairL]; omega
  have e3 : (pdC ⟨t, s, q, f, l, u, p⟩).Body.drop 8 = p := by simp [pdC, pk, pairL]
  unfold rdatV
  rw [e0, e1, e2, e3]
  cases f <;> cases l <;> cases u <;> rfl
def rdV (x : ChunkM) : Option DataM := if 8 ≤ x.Body.length ∧ isM x (pdR (rdatV x.Flags x.Body)) = true then some (rdatV x.Flags x.Body) else none
theorem rdV_iff (x : ChunkM) (y : DataM) : rdV x = some y ↔ isM x (pdR y) = true := by
  unfold rdV
  constructor
  · intro h
    split at h
    · next h1 => rw [← Option.some.inj h]; exact h1.2
    · cases h
  · intro h
    obtain ⟨h1, rfl⟩ := (isM_iff _ _ _).1 h
    obtain ⟨h2, h3⟩ := rdat_ok h1
    rw [h3, if_pos ⟨h2, h⟩]
/-- What a reader answers: the value whose chunk it is, or a code. -/
def rdOf (x : ChunkM) : Int := if chF x.Kind x.Flags x.Body = 0 then 5 else chF x.Kind x.Flags x.Body
def rdR (x : ChunkM) : DataResultM := match rdV x with | some d => ⟨0, d.Tsn, d.Stream, d.Seq, d.First, d.Last, d.Unordered, d.Piece⟩ | none => ⟨rdOf x, 0, 0, 0, false, false, false, []⟩
theorem chF_ok {k f : Int} {b : List Int} (h0 : 0 ≤ k ∧ k ≤ 255) (h1 : 0 ≤ f ∧ f ≤ 255) (h2 : b.length ≤ 160) : chF k f b = 0 := by
  unfold chF inB
  rw [if_pos (by simp [h0, h1]), if_pos h2]
theorem chF_data {x : ChunkM} {y : DataM} (h : isM x (pdR y) = true) : chF x.Kind x.Flags x.Body = 0 := by
  obtain ⟨h1, rfl⟩ := (isM_iff _ _ _).1 h
  obtain ⟨_, _, _, d1, d2⟩ := pdF_zero h1
  refine chF_ok (by simp [pdC]) ?_ (by simp [pdC, pk, pairL]; omega)
  show 0 ≤ bitN _ 1 + bitN _ 2 + bitN _ 4 ∧ bitN _ 1 + bitN _ 2 + bitN _ 4 ≤ 255
  cases y.Last <;> cases y.First <;> cases y.Unordered <;> decide

def gapsOf : List Int → List GapM
  | a :: b :: c :: d :: r => ⟨a * 256 + b, c * 256 + d⟩ :: gapsOf r
  | _ => []
theorem gapsOf_flat : ∀ (r : List GapM), gapsOf (r.flatMap gapL) = r
  | [] => rfl
  | ⟨f, t⟩ :: r => by
    rw [List.flatMap_cons]
    show gapsOf (f / 256 :: f % 256 :: t / 256 :: t % 256 :: r.flatMap gapL) = _
    rw [gapsOf, gapsOf_flat r]
    congr 2 <;> omega
theorem gap_len (r : List GapM) : (r.flatMap gapL).length = 4 * r.length := by
  induction r with
  | nil => rfl
  | cons x r ih => rw [List.flatMap_cons, List.length_append, ih]; simp [gapL, pairL]; omega
def rsakV (L : List Int) : SackM := ⟨atW L 0, gapsOf (L.drop 5)⟩
theorem rsak_ok {y : SackM} (h : ksF y = 0) : 5 ≤ (ksC y).Body.length ∧ rsakV (ksC y).Body = y := by
  obtain ⟨⟨a1, a2⟩, b, c⟩ := ksF_zero h
  obtain ⟨n, r⟩ := y
  simp only at *
  refine ⟨by simp [ksC, pk], ?_⟩
  have e0 : atW (ksC ⟨n, r⟩).Body 0 = n := by simp [atW, ksC, pk]; omega
  have e3 : (ksC ⟨n, r⟩).Body.drop 5 = r.flatMap gapL := by simp [ksC, pk]
  unfold rsakV
  rw [e0, e3, gapsOf_flat]
def rsV (x : ChunkM) : Option SackM := if 5 ≤ x.Body.length ∧ isM x (ksR (rsakV x.Body)) = true then some (rsakV x.Body) else none
theorem rsV_iff (x : ChunkM) (y : SackM) : rsV x = some y ↔ isM x (ksR y) = true := by
  unfold rsV
  constructor
  · intro h
    split at h
    · next h1 => rw [← Option.some.inj h]; exact h1.2
    · cases h
  · intro h
    obtain ⟨h1, rfl⟩ := (isM_iff _ _ _).1 h
    obtain ⟨h2, h3⟩ := rsak_ok h1
    rw [h3, if_pos ⟨h2, h⟩]
def rsR (x : ChunkM) : SackResultM := match rsV x with | some d => ⟨0, d.Cum, d.Gaps⟩ | none => ⟨rdOf x, 0, []⟩
theorem chF_sack {x : ChunkM} {y : SackM} (h : isM x (ksR y) = true) : chF x.Kind x.Flags x.Body = 0 := by
  obtain ⟨h1, rfl⟩ := (isM_iff _ _ _).1 h
  obtain ⟨_, b, _⟩ := ksF_zero h1
  exact chF_ok (by simp [ksC]) (by simp [ksC]) (by simp [ksC, pk, -List.length_flatMap, gap_len]; omega)

def opsOf : List Int → List AddrOpM
  | a :: b :: r => ⟨a, b⟩ :: opsOf r
  | _ => []
theorem opsOf_flat : ∀ (r : List AddrOpM), opsOf (r.flatMap opL) = r
  | [] => rfl
  | ⟨f, t⟩ :: r => by
    rw [List.flatMap_cons]
    show opsOf (f :: t :: r.flatMap opL) = _
    rw [opsOf, opsOf_flat r]
theorem op_len (r : List AddrOpM) : (r.flatMap opL).length = 2 * r.length := by
  induction r with
  | nil => rfl
  | cons x r ih => rw [List.flatMap_cons, List.length_append, ih]; simp [opL]; omega
def raskV (L : List Int) : AsconfM := ⟨atW L 0, opsOf (L.drop 5)⟩
theorem rask_ok {y : AsconfM} (h : qaF y = 0) : 5 ≤ (qaC y).Body.length ∧ raskV (qaC y).Body = y := by
  obtain ⟨⟨a1, a2⟩, b, c⟩ := qaF_zero h
  obtain ⟨n, r⟩ := y
  simp only at *
  refine ⟨by simp [qaC, pk], ?_⟩
  have e0 : atW (qaC ⟨n, r⟩).Body 0 = n := by simp [atW, qaC, pk]; omega
  have e3 : (qaC ⟨n, r⟩).Body.drop 5 = r.flatMap opL := by simp [qaC, pk]
  unfold raskV
  rw [e0, e3, opsOf_flat]
def rqV (x : ChunkM) : Option AsconfM := if 5 ≤ x.Body.length ∧ isM x (qaR (raskV x.Body)) = true then some (raskV x.Body) else none
theorem rqV_iff (x : ChunkM) (y : AsconfM) : rqV x = some y ↔ isM x (qaR y) = true := by
  unfold rqV
  constructor
  · intro h
    split at h
    · next h1 => rw [← Option.some.inj h]; exact h1.2
    · cases h
  · intro h
    obtain ⟨h1, rfl⟩ := (isM_iff _ _ _).1 h
    obtain ⟨h2, h3⟩ := rask_ok h1
    rw [h3, if_pos ⟨h2, h⟩]
def rqR (x : ChunkM) : AsconfResultM := match rqV x with | some d => ⟨0, d.Serial, d.Ops⟩ | none => ⟨rdOf x, 0, []⟩
theorem chF_ask {x : ChunkM} {y : AsconfM} (h : isM x (qaR y) = true) : chF x.Kind x.Flags x.Body = 0 := by
  obtain ⟨h1, rfl⟩ := (isM_iff _ _ _).1 h
  obtain ⟨_, b, _⟩ := qaF_zero h1
  exact chF_ok (by simp [qaC]) (by simp [qaC]) (by simp [qaC, pk, -List.length_flatMap, op_len]; omega)

/-- A count at a place and what stands behind it: is it there, what is it. -/
def cntN (L : List Int) (k : Nat) : Nat := (L.getD k 0).toNat
def cntOk (L : List Int) (k : Nat) : Prop := k < L.length ∧ k + 1 + cntN L k ≤ L.length
instance (L : List Int) (k : Nat) : Decidable (cntOk L k) := by unfold cntOk; exact inferInstance
def cntL (L : List Int) (k : Nat) : List Int := (L.drop (k + 1)).take (cntN L k)
theorem cnt_mid (a b r : List Int) (k : Nat) (hk : k = a.length) : cntOk (a ++ ((b.length : Int) :: b) ++ r) k ∧ cntL (a ++ ((b.length : Int) :: b) ++ r) k = b ∧ cntN (a ++ ((b.length : Int) :: b) ++ r) k = b.length := by
  subst hk
  have e : cntN (a ++ ((b.length : Int) :: b) ++ r) a.length = b.length := by
    unfold cntN
    rw [List.getD_eq_getElem?_getD, List.append_assoc, List.getElem?_append_right (Nat.le_refl _)]
    simp
  refine ⟨⟨by simp <;> omega, by rw [e]; simp <;> omega⟩, ?_, e⟩
  unfold cntL
  rw [e, List.append_assoc, List.drop_append, List.drop_eq_nil_of_le (by omega), show a.length + 1 - a.length = 1 by omega]
  simp
def rawV (L : List Int) : AnswerM := ⟨atW L 0, cntL L 4⟩
theorem raw_ok {y : AnswerM} (h : paF y = 0) : cntOk (paC y).Body 4 ∧ rawV (paC y).Body = y := by
  obtain ⟨⟨a1, a2⟩, b, c⟩ := paF_zero h
  obtain ⟨n, r⟩ := y
  simp only at *
  have := cnt_mid (pk n) r [] 4 rfl
  rw [List.append_nil] at this
  refine ⟨this.1, ?_⟩
  have e0 : atW (paC ⟨n, r⟩).Body 0 = n := by simp [atW, paC, pk]; omega
  unfold rawV
  rw [e0]
  show AnswerM.mk n (cntL (pk n ++ ((r.length : Int) :: r)) 4) = _
  rw [this.2.1]
def rwV (x : ChunkM) : Option AnswerM := if cntOk x.Body 4 ∧ isM x (paR (rawV x.Body)) = true then some (rawV x.Body) else none
theorem rwV_iff (x : ChunkM) (y : AnswerM) : rwV x = some y ↔ isM x (paR y) = true := by
  unfold rwV
  constructor
  · intro h
    split at h
    · next h1 => rw [← Option.some.inj h]; exact h1.2
    · cases h
  · intro h
    obtain ⟨h1, rfl⟩ := (isM_iff _ _ _).1 h
    obtain ⟨h2, h3⟩ := raw_ok h1
    rw [h3, if_pos ⟨h2, h⟩]
def rwR (x : ChunkM) : AnswerResultM := match rwV x with | some d => ⟨0, d.Serial, d.Codes⟩ | none => ⟨rdOf x, 0, []⟩
theorem chF_ans {x : ChunkM} {y : AnswerM} (h : isM x (paR y) = true) : chF x.Kind x.Flags x.Body = 0 := by
  obtain ⟨h1, rfl⟩ := (isM_iff _ _ _).1 h
  obtain ⟨_, b, _⟩ := paF_zero h1
  exact chF_ok (by simp [paC]) (by simp [paC]) (by simp [paC, pk]; omega)

def rinV (L : List Int) : InitM := ⟨atW L 0, atW L 4, (L.drop 8).take 16, cntL L 24, cntL L (25 + cntN L 24)⟩
def rinOk (L : List Int) : Prop := 24 ≤ L.length ∧ cntOk L 24 ∧ cntOk L (25 + cntN L 24)
instance (L : List Int) : Decidable (rinOk L) := by unfold rinOk; exact inferInstance
theorem rin_ok {y : InitM} (h : inF y = 0) : rinOk (inL y) ∧ rinV (inL y) = y := by
  obtain ⟨⟨a1, a2⟩, ⟨b1, b2⟩, ⟨c1, c2⟩, _, d⟩ := inF_zero h
  obtain ⟨t, n, r, l, k⟩ := y
  simp only at *
  have q1 := cnt_mid (pk t ++ pk n ++ r) l ([(k.length : Int)] ++ k) 24 (by simp [pk]; omega)
  have q2 := cnt_mid (pk t ++ pk n ++ r ++ ((l.length : Int) :: l)) k [] (25 + l.length) (by simp [pk]; omega)
  have e1 : inL ⟨t, n, r, l, k⟩ = pk t ++ pk n ++ r ++ ((l.length : Int) :: l) ++ ([(k.length : Int)] ++ k) := by unfold inL; simp only [List.append_assoc]
  have e2 : inL ⟨t, n, r, l, k⟩ = pk t ++ pk n ++ r ++ ((l.length : Int) :: l) ++ ((k.length : Int) :: k) ++ [] := by rw [e1]; simp
  rw [← e1] at q1
  rw [← e2] at q2
  rw [← q1.2.2] at q2
  have e0 : atW (inL ⟨t, n, r, l, k⟩) 0 = t := by rw [e1]; simp [atW, pk]; omega
  have e4 : atW (inL ⟨t, n, r, l, k⟩) 4 = n := by rw [e1]; simp [atW, pk]; omega
  have e8 : ((inL ⟨t, n, r, l, k⟩).drop 8).take 16 = r := by rw [e1]; simp [pk, ← c1]
  refine ⟨⟨by have := q1.1.1; omega, q1.1, q2.1⟩, ?_⟩
  unfold rinV
  rw [e0, e4, e8, q1.2.1, q2.2.1]
def riV (x : ChunkM) : Option InitM := if rinOk x.Body ∧ isM x (piR (rinV x.Body) x.Kind) = true then some (rinV x.Body) else none
theorem riV_iff (x : ChunkM) (y : InitM) : riV x = some y ↔ isM x (piR y x.Kind) = true := by
  unfold riV
  constructor
  · intro h
    split at h
    · next h1 => rw [← Option.some.inj h]; exact h1.2
    · cases h
  · intro h
    obtain ⟨h1, h0⟩ := (isM_iff _ _ _).1 h
    obtain ⟨h2, h3⟩ := rin_ok (piF_zero h1).2
    have hb : x.Body = inL y := by rw [h0]; rfl
    rw [hb, h3, if_pos ⟨h2, h⟩]
def riR (x : ChunkM) : InitResultM := match riV x with | some d => ⟨0, d.Tag, d.Tsn, d.Random, d.Addrs, d.Cookie⟩ | none => ⟨rdOf x, 0, 0, [], [], []⟩
theorem chF_init {x : ChunkM} {y : InitM} (h : isM x (piR y x.Kind) = true) : chF x.Kind x.Flags x.Body = 0 := by
  obtain ⟨h1, h0⟩ := (isM_iff _ _ _).1 h
  obtain ⟨h2, h3⟩ := piF_zero h1
  obtain ⟨_, _, ⟨c1, c2, c3⟩, _, d⟩ := inF_zero h3
  have hb : x.Body = inL y := by rw [h0]; rfl
  have hf : x.Flags = 0 := by rw [h0]; rfl
  exact chF_ok (by omega) (by omega) (by rw [hb]; simp [inL, pk]; omega)

/-! The program's readers: what stands there, if enough stands there. -/
theorem rd_by {α : Type} {P R : Option α} {M : α → Bool} (hp : ∀ y, M y = true → P = some y) (hr : ∀ y, R = some y ↔ M y = true) : (∀ y, P = some y → M y = true → R = some y) ∧ (∀ y, P = some y → M y = false → R = none) ∧ (P = none → R = none) := by
  refine ⟨fun y _ h => (hr y).2 h, fun y h1 h2 => ?_, fun h1 => ?_⟩
  · cases e : R with
    | none => rfl
    | some z =>
      have h3 := (hr z).1 e
      have h4 := hp z h3
      rw [h1] at h4
      cases h4
      rw [h2] at h3
      cases h3
  · cases e : R with
    | none => rfl
    | some z =>
      have h4 := hp z ((hr z).1 e)
      rw [h1] at h4
      cases h4
def pdV (fb lb ub : Int → Bool) (f : Int) (L : List Int) : Option DataM := if 8 ≤ L.length then some ⟨atW L 0, pairAt L 4, pairAt L 6, fb f, lb f, ub f, L.drop 8⟩ else none
theorem pd_ok {fb lb ub : Int → Bool} (hb : ∀ f : Int, 0 ≤ f → f ≤ 7 → fb f = decide (f / 2 % 2 = 1) ∧ lb f = decide (f % 2 = 1) ∧ ub f = decide (f / 4 % 2 = 1)) {x : ChunkM} (y : DataM) (h : isM x (pdR y) = true) : pdV fb lb ub x.Flags x.Body = some y := by
  obtain ⟨h1, rfl⟩ := (isM_iff _ _ _).1 h
  obtain ⟨h2, h3⟩ := rdat_ok h1
  have hf : 0 ≤ (pdC y).Flags ∧ (pdC y).Flags ≤ 7 := by
    show 0 ≤ bitN _ 1 + bitN _ 2 + bitN _ 4 ∧ bitN _ 1 + bitN _ 2 + bitN _ 4 ≤ 7
    cases y.Last <;> cases y.First <;> cases y.Unordered <;> decide
  obtain ⟨e1, e2, e3⟩ := hb _ hf.1 hf.2
  unfold pdV
  rw [if_pos h2, e1, e2, e3]
  exact congrArg some h3
def psV (L : List Int) : Option SackM := if 5 ≤ L.length ∧ 5 + 4 * cntN L 4 ≤ L.length then some ⟨atW L 0, gapsOf ((L.drop 5).take (4 * cntN L 4))⟩ else none
theorem ps_ok {x : ChunkM} (y : SackM) (h : isM x (ksR y) = true) : psV x.Body = some y := by
  obtain ⟨h1, rfl⟩ := (isM_iff _ _ _).1 h
  obtain ⟨h2, h3⟩ := rsak_ok h1
  have hn : cntN (ksC y).Body 4 = y.Gaps.length := by simp [cntN, ksC, pk]
  have hl : (ksC y).Body.length = 5 + 4 * y.Gaps.length := by simp [ksC, pk, -List.length_flatMap, gap_len]; omega
  unfold psV
  rw [hn, if_pos ⟨h2, by omega⟩, List.take_of_length_le (by rw [List.length_drop]; omega)]
  exact congrArg some h3
def pqV (L : List Int) : Option AsconfM := if 5 ≤ L.length ∧ 5 + 2 * cntN L 4 ≤ L.length then some ⟨atW L 0, opsOf ((L.drop 5).take (2 * cntN L 4))⟩ else none
theorem pq_ok {x : ChunkM} (y : AsconfM) (h : isM x (qaR y) = true) : pqV x.Body = some y := by
  obtain ⟨h1, rfl⟩ := (isM_iff _ _ _).1 h
  obtain ⟨h2, h3⟩ := rask_ok h1
  have hn : cntN (qaC y).Body 4 = y.Ops.length := by simp [cntN, qaC, pk]
  have hl : (qaC y).Body.length = 5 + 2 * y.Ops.length := by simp [qaC, pk, -List.length_flatMap, op_len]; omega
  unfold pqV
  rw [hn, if_pos ⟨h2, by omega⟩, List.take_of_length_le (by rw [List.length_drop]; omega)]
  exact congrArg some h3
def pwV (L : List Int) : Option AnswerM := if cntOk L 4 then some (rawV L) else none
theorem pw_ok {x : ChunkM} (y : AnswerM) (h : isM x (paR y) = true) : pwV x.Body = some y := by
  obtain ⟨h1, rfl⟩ := (isM_iff _ _ _).1 h
  obtain ⟨h2, h3⟩ := raw_ok h1
  unfold pwV
  rw [if_pos h2, h3]
def piV (L : List Int) : Option InitM := if rinOk L then some (rinV L) else none
theorem pi_ok {x : ChunkM} (y : InitM) (h : isM x (piR y x.Kind) = true) : piV x.Body = some y := by
  obtain ⟨h1, h0⟩ := (isM_iff _ _ _).1 h
  obtain ⟨h2, h3⟩ := rin_ok (piF_zero h1).2
  have hb : x.Body = inL y := by rw [h0]; rfl
  unfold piV
  rw [hb, if_pos h2, h3]
/-- What lies in a chunk. -/
inductive Ct where
  | no
  | data (y : DataM)
  | sack (y : SackM)
  | init (k : Int) (y : InitM)
  | ask (y : AsconfM)
  | ans (y : AnswerM)
def ctM (x : ChunkM) : Ct :=
  if x.Kind = 0 then (match rdV x with | some y => .data y | none => .no)
  else if x.Kind = 3 then (match rsV x with | some y => .sack y | none => .no)
  else if x.Kind = 1 ∨ x.Kind = 2 then (match riV x with | some y => .init x.Kind y | none => .no)
  else if x.Kind = 193 then (match rqV x with | some y => .ask y | none => .no)
  else if x.Kind = 128 then (match rwV x with | some y => .ans y | none => .no)
  else .no
theorem rdV_kind {x : ChunkM} {y : DataM} (h : rdV x = some y) : x.Kind = 0 := by
  obtain ⟨_, e⟩ := (isM_iff _ _ _).1 ((rdV_iff x y).1 h)
  rw [e]; rfl
theorem rsV_kind {x : ChunkM} {y : SackM} (h : rsV x = some y) : x.Kind = 3 := by
  obtain ⟨_, e⟩ := (isM_iff _ _ _).1 ((rsV_iff x y).1 h)
  rw [e]; rfl
theorem riV_kind {x : ChunkM} {y : InitM} (h : riV x = some y) : x.Kind = 1 ∨ x.Kind = 2 := (piF_zero ((isM_iff _ _ _).1 ((riV_iff x y).1 h)).1).1
theorem rqV_kind {x : ChunkM} {y : AsconfM} (h : rqV x = some y) : x.Kind = 193 := by
  obtain ⟨_, e⟩ := (isM_iff _ _ _).1 ((rqV_iff x y).1 h)
  rw [e]; rfl
theorem rwV_kind {x : ChunkM} {y : AnswerM} (h : rwV x = some y) : x.Kind = 128 := by
  obtain ⟨_, e⟩ := (isM_iff _ _ _).1 ((rwV_iff x y).1 h)
  rw [e]; rfl
theorem ct_data (x : ChunkM) (y : DataM) : ctM x = .data y ↔ rdV x = some y := by
  constructor
  · intro h
    unfold ctM at h
    (repeat' split at h) <;> first | (cases h; done) | (cases h; assumption)
  · intro h
    unfold ctM
    rw [if_pos (rdV_kind h), h]
theorem ct_sack (x : ChunkM) (y : SackM) : ctM x = .sack y ↔ rsV x = some y := by
  constructor
  · intro h
    unfold ctM at h
    (repeat' split at h) <;> first | (cases h; done) | (cases h; assumption)
  · intro h
    have hk := rsV_kind h
    unfold ctM
    rw [if_neg (by omega), if_pos hk, h]
theorem ct_init (x : ChunkM) (y : InitM) : ctM x = .init x.Kind y ↔ riV x = some y := by
  constructor
  · intro h
    unfold ctM at h
    (repeat' split at h) <;> first | (cases h; done) | (cases h; assumption)
  · intro h
    have hk := riV_kind h
    unfold ctM
    rw [if_neg (by omega), if_neg (by omega), if_pos hk, h]
theorem ct_init' (x : ChunkM) (k : Int) (y : InitM) (h : ctM x = .init k y) : k = x.Kind := by
  unfold ctM at h
  (repeat' split at h) <;> first | (cases h; done) | (cases h; rfl)
theorem ct_ask (x : ChunkM) (y : AsconfM) : ctM x = .ask y ↔ rqV x = some y := by
  constructor
  · intro h
    unfold ctM at h
    (repeat' split at h) <;> first | (cases h; done) | (cases h; assumption)
  · intro h
    have hk := rqV_kind h
    unfold ctM
    rw [if_neg (by omega), if_neg (by omega), if_neg (by omega), if_pos hk, h]
theorem ct_ans (x : ChunkM) (y : AnswerM) : ctM x = .ans y ↔ rwV x = some y := by
  constructor
  · intro h
    unfold ctM at h
    (repeat' split at h) <;> first | (cases h; done) | (cases h; assumption)
  · intro h
    have hk := rwV_kind h
    unfold ctM
    rw [if_neg (by omega), if_neg (by omega), if_neg (by omega), if_neg (by omega), if_pos hk, h]
end Go.Proofs.Ythljdikcpdokdaa

/- The program's isPair, isStream, isAddr; the faults' little tests. -/
namespace Go.Proofs.Ythljdikcpdokdaa
open Go.RowKit Go.Deep

set_option maxHeartbeats 400000 in
theorem isPair_any (a : Int) (w : World) : Calls Try.prog 81 #[.int .i64 a] w fun e w' => e = .returned (.bool (inB a 0 65535)) ∧ w = w' := by
  by_cases h0 : 0 ≤ a
  · by_cases h1 : a ≤ 65535
    · rw [inB_yes h0 h1]
      go_enter Try.func81, Try.ntmps81
      go_wp2
      go_ret
      exact ⟨rfl, rfl⟩
    · rw [inB_hi (by omega)]
      go_enter Try.func81, Try.ntmps81
      go_wp2
      go_ret
      exact ⟨rfl, rfl⟩
  · rw [inB_lo (by omega)]
    go_enter Try.func81, Try.ntmps81
    go_wp2
    go_ret
    exact ⟨rfl, rfl⟩
set_option maxHeartbeats 400000 in
theorem isAddr_any (a : Int) (w : World) : Calls Try.prog 222 #[.int .i64 a] w fun e w' => e = .returned (.bool (inB a 1 255)) ∧ w = w' := by
  by_cases h0 : 1 ≤ a
  · by_cases h1 : a ≤ 255
    · rw [inB_yes h0 h1]
      go_enter Try.func222, Try.ntmps222
      go_wp2
      go_ret
      exact ⟨rfl, rfl⟩
    · rw [inB_hi (by omega)]
      go_enter Try.func222, Try.ntmps222
      go_wp2
      go_ret
      exact ⟨rfl, rfl⟩
  · rw [inB_lo (by omega)]
    go_enter Try.func222, Try.ntmps222
    go_wp2
    go_ret
    exact ⟨rfl, rfl⟩
set_option maxHeartbeats 400000 in
theorem isStream_any (a : Int) (w : World) : Calls Try.prog 155 #[.int .i64 a] w fun e w' => e = .returned (.bool (inB a 0 9)) ∧ w = w' := by
  by_cases h0 : 0 ≤ a
  · by_cases h1 : a ≤ 9
    · rw [inB_yes h0 h1]
      have h2 : a < 10 := by omega
      go_enter Try.func155, Try.ntmps155
      go_wp2
      go_ret
      exact ⟨rfl, rfl⟩
    · rw [inB_hi (by omega)]
      have h2 : ¬ a < 10 := by omega
      go_enter Try.func155, Try.ntmps155
      go_wp2
      go_ret
      exact ⟨rfl, rfl⟩
  · rw [inB_lo (by omega)]
    go_enter Try.func155, Try.ntmps155
    go_wp2
    go_ret
    exact ⟨rfl, rfl⟩
set_option maxHeartbeats 400000 in
theorem isOp_any (k a : Int) (w : World) : Calls Try.prog 225 #[.agg #[.int .i64 k, .int .i64 a]] w fun e w' => e = .returned (.bool (inB k 1 3 && inB a 1 255)) ∧ w.alloc (.cells #[.int .i64 k, .int .i64 a] 257) = w' := by
  by_cases h0 : 1 ≤ k
  · by_cases h1 : k ≤ 3
    · rw [inB_yes h0 h1, Bool.true_and]
      go_enter Try.func225, Try.ntmps225
      go_wp2_with (go_at_call 222; refine (isAddr_any _ _).mono ?_; rintro e w' ⟨rfl, rfl⟩)
      go_ret
      exact ⟨rfl, rfl⟩
    · rw [inB_hi (by omega), Bool.false_and]
      go_enter Try.func225, Try.ntmps225
      go_wp2
      go_ret
      exact ⟨rfl, rfl⟩
  · rw [inB_lo (by omega), Bool.false_and]
    go_enter Try.func225, Try.ntmps225
    go_wp2
    go_ret
    exact ⟨rfl, rfl⟩
end Go.Proofs.Ythljdikcpdokdaa

/- The program's Data: fault, flags, write. -/
namespace Go.Proofs.Ythljdikcpdokdaa
open Go.RowKit Go.Deep

set_option maxRecDepth 100000 in
set_option maxHeartbeats 2000000 in
theorem pdF_impl (y : DataM) (vs : List Value) (w : World) (h : RdA w y.vs vs) :
    Calls Try.prog 161 #[.agg vs.toArray] w fun e w' => e = .returned (.int .i64 (pdF y)) ∧ Below w.heap.size w w' := by
  obtain ⟨A, c, rfl⟩ := shape_Data h
  have hm : (y.Piece.length : Int) ≤ 9223372036854775807 := by
    have h' : RdA w [.int y.Tsn, .int y.Stream, .int y.Seq, .bool y.First, .bool y.Last, .bool y.Unordered, .bs y.Piece] _ := h
    obtain ⟨_, _, e, k, _⟩ := h'.tl.tl.tl.tl.tl.tl.hd.bs_out
    exact k.len
  clear h
  by_cases h1 : wB y.Tsn = true
  · by_cases h2 : inB y.Stream 0 9 = true
    · by_cases h3 : inB y.Seq 0 65535 = true
      · by_cases h4 : y.Piece.length < 1
        · have e : pdF y = 2 := by simp only [pdF, h1, h2, h3, Bool.and_self, if_true]; rw [if_neg (by omega)]
          have h4' : ((y.Piece.length : Int) == 0) = true := by rw [beq_iff_eq]; omega
          rw [e]
          clear e h4
          go_enter Try.func161, Try.ntmps161
          go_wp2_with (first | (go_at_call 61; refine (isWord_any _ _).mono ?_; rintro e w' ⟨rfl, rfl⟩) | (go_at_call 155; refine (isStream_any _ _).mono ?_; rintro e w' ⟨rfl, rfl⟩) | (go_at_call 81; refine (isPair_any _ _).mono ?_; rintro e w' ⟨rfl, rfl⟩))
          go_ret
          exact ⟨rfl, bal (Below.refl _ _) _⟩
        · have h4' : ((y.Piece.length : Int) == 0) = false := by rw [beq_eq_false_iff_ne]; omega
          by_cases h5 : 100 < y.Piece.length
          · have e : pdF y = 2 := by simp only [pdF, h1, h2, h3, Bool.and_self, if_true]; rw [if_neg (by omega)]
            have h5' : (100 : Int) < (y.Piece.length : Int) := by omega
            rw [e]
            clear e h4 h5
            go_enter Try.func161, Try.ntmps161
            go_wp2_with (first | (go_at_call 61; refine (isWord_any _ _).mono ?_; rintro e w' ⟨rfl, rfl⟩) | (go_at_call 155; refine (isStream_any _ _).mono ?_; rintro e w' ⟨rfl, rfl⟩) | (go_at_call 81; refine (isPair_any _ _).mono ?_; rintro e w' ⟨rfl, rfl⟩))
            go_ret
            exact ⟨rfl, bal (Below.refl _ _) _⟩
          · have h5' : ¬ (100 : Int) < (y.Piece.length : Int) := by omega
            have e0 : pdF y = if y.Unordered = true ∧ y.Seq ≠ 0 then 1 else 0 := by simp only [pdF, h1, h2, h3, Bool.and_self, if_true]; rw [if_pos (by omega)]
            rw [e0]
            clear e0 h4 h5
            by_cases h6 : y.Unordered = true
            · by_cases h7 : y.Seq = 0
              · rw [if_neg (fun h => h.2 h7)]
                have h8 : (y.Seq != 0) = false := by rw [h7]; rfl
                go_enter Try.func161, Try.ntmps161
                go_wp2_with (first | (go_at_call 61; refine (isWord_any _ _).mono ?_; rintro e w' ⟨rfl, rfl⟩) | (go_at_call 155; refine (isStream_any _ _).mono ?_; rintro e w' ⟨rfl, rfl⟩) | (go_at_call 81; refine (isPair_any _ _).mono ?_; rintro e w' ⟨rfl, rfl⟩))
                go_ret
                exact ⟨rfl, bal (Below.refl _ _) _⟩
              · rw [if_pos ⟨h6, h7⟩]
                have h8 : (y.Seq != 0) = true := by rw [bne_iff_ne]; exact h7
                go_enter Try.func161, Try.ntmps161
                go_wp2_with (first | (go_at_call 61; refine (isWord_any _ _).mono ?_; rintro e w' ⟨rfl, rfl⟩) | (go_at_call 155; refine (isStream_any _ _).mono ?_; rintro e w' ⟨rfl, rfl⟩) | (go_at_call 81; refine (isPair_any _ _).mono ?_; rintro e w' ⟨rfl, rfl⟩))
                go_ret
                exact ⟨rfl, bal (Below.refl _ _) _⟩
            · have h6 : y.Unordered = false := by simpa using h6
              rw [if_neg (fun h => by rw [h6] at h; exact Bool.noConfusion h.1)]
              go_enter Try.func161, Try.ntmps161
              go_wp2_with (first | (go_at_call 61; refine (isWord_any _ _).mono ?_; rintro e w' ⟨rfl, rfl⟩) | (go_at_call 155; refine (isStream_any _ _).mono ?_; rintro e w' ⟨rfl, rfl⟩) | (go_at_call 81; refine (isPair_any _ _).mono ?_; rintro e w' ⟨rfl, rfl⟩))
              go_ret
              exact ⟨rfl, bal (Below.refl _ _) _⟩
      · have h3 : inB y.Seq 0 65535 = false := by simpa using h3
        have e : pdF y = 3 := by simp [pdF, h3]
        rw [e]
        clear e
        go_enter Try.func161, Try.ntmps161
        go_wp2_with (first | (go_at_call 61; refine (isWord_any _ _).mono ?_; rintro e w' ⟨rfl, rfl⟩) | (go_at_call 155; refine (isStream_any _ _).mono ?_; rintro e w' ⟨rfl, rfl⟩) | (go_at_call 81; refine (isPair_any _ _).mono ?_; rintro e w' ⟨rfl, rfl⟩))
        go_ret
        exact ⟨rfl, bal (Below.refl _ _) _⟩
    · have h2 : inB y.Stream 0 9 = false := by simpa using h2
      have e : pdF y = 3 := by simp [pdF, h2]
      rw [e]
      clear e
      go_enter Try.func161, Try.ntmps161
      go_wp2_with (first | (go_at_call 61; refine (isWord_any _ _).mono ?_; rintro e w' ⟨rfl, rfl⟩) | (go_at_call 155; refine (isStream_any _ _).mono ?_; rintro e w' ⟨rfl, rfl⟩) | (go_at_call 81; refine (isPair_any _ _).mono ?_; rintro e w' ⟨rfl, rfl⟩))
      go_ret
      exact ⟨rfl, bal (Below.refl _ _) _⟩
  · have h1 : wB y.Tsn = false := by simpa using h1
    have e : pdF y = 3 := by simp [pdF, h1]
    rw [e]
    clear e
    go_enter Try.func161, Try.ntmps161
    go_wp2_with (first | (go_at_call 61; refine (isWord_any _ _).mono ?_; rintro e w' ⟨rfl, rfl⟩) | (go_at_call 155; refine (isStream_any _ _).mono ?_; rintro e w' ⟨rfl, rfl⟩) | (go_at_call 81; refine (isPair_any _ _).mono ?_; rintro e w' ⟨rfl, rfl⟩))
    go_ret
    exact ⟨rfl, bal (Below.refl _ _) _⟩
set_option maxHeartbeats 1000000 in
theorem flags_impl (t s q : Int) (f l u : Bool) (v : Value) (w : World) :
    Calls Try.prog 159 #[.agg #[.int .i64 t, .int .i64 s, .int .i64 q, .bool f, .bool l, .bool u, v]] w fun e w' => e = .returned (.int .i64 (bitN l 1 + bitN f 2 + bitN u 4)) ∧ w.alloc (.cells #[.int .i64 t, .int .i64 s, .int .i64 q, .bool f, .bool l, .bool u, v] 69) = w' := by
  cases f <;> cases l <;> cases u
  all_goals
    go_enter Try.func159, Try.ntmps159
    go_wp2
    go_ret
    exact ⟨rfl, rfl⟩
end Go.Proofs.Ythljdikcpdokdaa

/- The model's chapter 5: data: l5DataFault. -/
namespace Go.Proofs.Ythljdikcpdokdaa
open Go.RowKit Go.Deep

set_option maxRecDepth 100000 in
set_option maxHeartbeats 2000000 in
theorem pdF_any (g o : Nat) (y : DataM) (w : World) (h : RdL w y.vs g o) :
    Calls Try.prog 85 #[.pointer (some ⟨g, o, none⟩)] w fun e w' => e = .returned (.int .i64 (pdF y)) ∧ Below w.heap.size w w' := by
  obtain ⟨A, c, q0, q1, q2, q3, q4, q5, q6, hA⟩ := mem_Data h
  have hm := (hA.bs_out).choose_spec.choose_spec.2.1.len
  clear h hA
  by_cases h1 : wB y.Tsn = true
  · by_cases h2 : inB y.Stream 0 9 = true
    · by_cases h3 : inB y.Seq 0 65535 = true
      · by_cases h4 : y.Piece.length < 1
        · have e : pdF y = 2 := by simp only [pdF, h1, h2, h3, Bool.and_self, if_true]; rw [if_neg (by omega)]
          have h4' : (y.Piece.length : Int) < 1 := by omega
          rw [e]
          clear e h4
          go_enter Try.func85, Try.ntmps85
          go_wp2_with (first | (go_at_call 82; refine (word32_any _ _).mono ?_; rintro e w' ⟨rfl, rfl⟩) | (go_at_call 84; refine (in_any _ _ _ _).mono ?_; rintro e w' ⟨rfl, rfl⟩))
          go_ret
          exact ⟨rfl, Below.refl _ _⟩
        · by_cases h5 : 100 < y.Piece.length
          · have e : pdF y = 2 := by simp only [pdF, h1, h2, h3, Bool.and_self, if_true]; rw [if_neg (by omega)]
            have h4' : ¬ (y.Piece.length : Int) < 1 := by omega
            have h5' : (100 : Int) < (y.Piece.length : Int) := by omega
            rw [e]
            clear e h4 h5
            go_enter Try.func85, Try.ntmps85
            go_wp2_with (first | (go_at_call 82; refine (word32_any _ _).mono ?_; rintro e w' ⟨rfl, rfl⟩) | (go_at_call 84; refine (in_any _ _ _ _).mono ?_; rintro e w' ⟨rfl, rfl⟩))
            go_ret
            exact ⟨rfl, Below.refl _ _⟩
          · have h4' : ¬ (y.Piece.length : Int) < 1 := by omega
            have h5' : ¬ (100 : Int) < (y.Piece.length : Int) := by omega
            have e0 : pdF y = if y.Unordered = true ∧ y.Seq ≠ 0 then 1 else 0 := by simp only [pdF, h1, h2, h3, Bool.and_self, if_true]; rw [if_pos (by omega)]
            rw [e0]
            clear e0 h4 h5
            by_cases h6 : y.Unordered = true
            · by_cases h7 : y.Seq = 0
              · rw [if_neg (fun h => h.2 h7)]
                have h8 : (y.Seq != 0) = false := by rw [h7]; rfl
                go_enter Try.func85, Try.ntmps85
                go_wp2_with (first | (go_at_call 82; refine (word32_any _ _).mono ?_; rintro e w' ⟨rfl, rfl⟩) | (go_at_call 84; refine (in_any _ _ _ _).mono ?_; rintro e w' ⟨rfl, rfl⟩))
                go_ret
                exact ⟨rfl, Below.refl _ _⟩
              · rw [if_pos ⟨h6, h7⟩]
                have h8 : (y.Seq != 0) = true := by rw [bne_iff_ne]; exact h7
                go_enter Try.func85, Try.ntmps85
                go_wp2_with (first | (go_at_call 82; refine (word32_any _ _).mono ?_; rintro e w' ⟨rfl, rfl⟩) | (go_at_call 84; refine (in_any _ _ _ _).mono ?_; rintro e w' ⟨rfl, rfl⟩))
                go_ret
                exact ⟨rfl, Below.refl _ _⟩
            · have h6 : y.Unordered = false := by simpa using h6
              rw [if_neg (fun h => by rw [h6] at h; exact Bool.noConfusion h.1)]
              go_enter Try.func85, Try.ntmps85
              go_wp2_with (first | (go_at_call 82; refine (word32_any _ _).mono ?_; rintro e w' ⟨rfl, rfl⟩) | (go_at_call 84; refine (in_any _ _ _ _).mono ?_; rintro e w' ⟨rfl, rfl⟩))
              go_ret
              exact ⟨rfl, Below.refl _ _⟩
      · have h3 : inB y.Seq 0 65535 = false := by simpa using h3
        have e : pdF y = 3 := by simp [pdF, h3]
        rw [e]
        clear e
        go_enter Try.func85, Try.ntmps85
        go_wp2_with (first | (go_at_call 82; refine (word32_any _ _).mono ?_; rintro e w' ⟨rfl, rfl⟩) | (go_at_call 84; refine (in_any _ _ _ _).mono ?_; rintro e w' ⟨rfl, rfl⟩))
        go_ret
        exact ⟨rfl, Below.refl _ _⟩
    · have h2 : inB y.Stream 0 9 = false := by simpa using h2
      have e : pdF y = 3 := by simp [pdF, h2]
      rw [e]
      clear e
      go_enter Try.func85, Try.ntmps85
      go_wp2_with (first | (go_at_call 82; refine (word32_any _ _).mono ?_; rintro e w' ⟨rfl, rfl⟩) | (go_at_call 84; refine (in_any _ _ _ _).mono ?_; rintro e w' ⟨rfl, rfl⟩))
      go_ret
      exact ⟨rfl, Below.refl _ _⟩
  · have h1 : wB y.Tsn = false := by simpa using h1
    have e : pdF y = 3 := by simp [pdF, h1]
    rw [e]
    clear e
    go_enter Try.func85, Try.ntmps85
    go_wp2_with (first | (go_at_call 82; refine (word32_any _ _).mono ?_; rintro e w' ⟨rfl, rfl⟩) | (go_at_call 84; refine (in_any _ _ _ _).mono ?_; rintro e w' ⟨rfl, rfl⟩))
    go_ret
    exact ⟨rfl, Below.refl _ _⟩
end Go.Proofs.Ythljdikcpdokdaa
