import Derived.Test.YtjjileefdjjijaaDoorTySack
import Derived.Test.YtjjileefdjjijaaDoorMa6
import Derived.Test.YtjjileefdjjijaaDoorMa2
import Derived.Test.YtjjileefdjjijaaDoorMa4

/- Chapter 5 on numbers: requests and acknowledgements; the model's l5Addr, l5AsconfFault, l5SackFault. -/
namespace Go.Proofs.YtjjileefdjjijaaDoor
open Go.RowKit Go.Deep

def okOp (x : AddrOpM) : Bool := inB x.Kind 1 3 && inB x.Addr 1 255
def qaF (y : AsconfM) : Int := if wB y.Serial then (if 1 ≤ y.Ops.length ∧ y.Ops.length ≤ 4 then (if y.Ops.all okOp then 0 else 3) else 2) else 3
def opL (x : AddrOpM) : List Int := [x.Kind, x.Addr]
def qaC (y : AsconfM) : ChunkM := ⟨193, 0, pk y.Serial ++ ((y.Ops.length : Int) :: y.Ops.flatMap opL)⟩
def qaR (y : AsconfM) : ChunkResultM := crOf (qaF y) (qaC y)
/-- The gaps behind a number, each one behind the other with a number between. -/
def okGaps : Int → List GapM → Bool
  | _, [] => true
  | a, x :: r => inB x.From 2 x.To && inB x.To 2 65535 && decide (a + 1 < x.From) && okGaps x.To r
theorem okGaps_cons (a : Int) (x : GapM) (r : List GapM) : okGaps a (x :: r) = (inB x.From 2 x.To && inB x.To 2 65535 && decide (a + 1 < x.From) && okGaps x.To r) := rfl
def ksF (y : SackM) : Int := if wB y.Cum then (if y.Gaps.length ≤ 20 then (if okGaps 0 y.Gaps then 0 else 1) else 2) else 3
def gapL (x : GapM) : List Int := pairL x.From ++ pairL x.To
def ksC (y : SackM) : ChunkM := ⟨3, 0, pk y.Cum ++ ((y.Gaps.length : Int) :: y.Gaps.flatMap gapL)⟩
def ksR (y : SackM) : ChunkResultM := crOf (ksF y) (ksC y)
theorem qaF_zero {y : AsconfM} (h : qaF y = 0) : (0 ≤ y.Serial ∧ y.Serial ≤ 4294967295) ∧ (1 ≤ y.Ops.length ∧ y.Ops.length ≤ 4) ∧ y.Ops.all okOp = true := by
  unfold qaF wB inB at h
  split at h
  · next h1 =>
    simp only [Bool.and_eq_true, decide_eq_true_eq] at h1
    split at h
    · next h2 =>
      split at h
      · next h3 => exact ⟨h1, h2, h3⟩
      · cases h
    · cases h
  · cases h
theorem ksF_zero {y : SackM} (h : ksF y = 0) : (0 ≤ y.Cum ∧ y.Cum ≤ 4294967295) ∧ y.Gaps.length ≤ 20 ∧ okGaps 0 y.Gaps = true := by
  unfold ksF wB inB at h
  split at h
  · next h1 =>
    simp only [Bool.and_eq_true, decide_eq_true_eq] at h1
    split at h
    · next h2 =>
      split at h
      · next h3 => exact ⟨h1, h2, h3⟩
      · cases h
    · cases h
  · cases h
set_option maxHeartbeats 400000 in
theorem l5Addr_any (a : Int) (w : World) : Calls Tryd.prog 115 #[.int .i64 a] w fun e w' => e = .returned (.bool (inB a 1 255)) ∧ w = w' := by
  go_enter Tryd.func115, Tryd.ntmps115
  go_wp2_with (go_at_call 107; refine (in_any _ _ _ _).mono ?_; rintro e w' ⟨rfl, rfl⟩)
  go_ret
  exact ⟨rfl, rfl⟩
theorem all_take {α : Type} {f : α → Bool} {l : List α} {j : Nat} (hj : j < l.length) (h : (l.take j).all f = true) (k : f l[j] = true) : (l.take (j + 1)).all f = true := by
  rw [List.take_add_one, List.getElem?_eq_getElem hj, Option.toList_some, List.all_append, h]
  simp [k]
theorem all_not {α : Type} {f : α → Bool} {l : List α} {j : Nat} (hj : j < l.length) (k : f l[j] = false) : ¬ l.all f = true := by
  intro h
  rw [List.all_eq_true] at h
  have := h _ (List.getElem_mem hj)
  rw [k] at this
  cases this
set_option maxRecDepth 100000 in
set_option maxHeartbeats 4000000 in
theorem qaF_any (g o : Nat) (y : AsconfM) (w : World) (h : RdL w y.vs g o) :
    Calls Tryd.prog 75 #[.pointer (some ⟨g, o, none⟩)] w fun e w' => e = .returned (.int .i64 (qaF y)) ∧ Below w.heap.size w w' := by
  obtain ⟨A, c, q0, q1, hA⟩ := mem_Asconf h
  have hm : (y.Ops.length : Int) ≤ 9223372036854775807 := Rd.st_len hA
  have HI := hidH hA
  clear h hA
  by_cases h1 : wB y.Serial = true
  · by_cases h4 : y.Ops.length < 1
    · have e : qaF y = 2 := by simp only [qaF, h1, if_true]; rw [if_neg (by omega)]
      have h4' : (y.Ops.length : Int) < 1 := by omega
      rw [e]
      clear e h4
      go_enter Tryd.func75, Tryd.ntmps75
      go_wp2_with (first | (go_at_call 106; refine (word32_any _ _).mono ?_; rintro e w' ⟨rfl, rfl⟩))
      go_ret
      exact ⟨rfl, Below.refl _ _⟩
    · by_cases h5 : 4 < y.Ops.length
      · have e : qaF y = 2 := by simp only [qaF, h1, if_true]; rw [if_neg (by omega)]
        have h4' : ¬ (y.Ops.length : Int) < 1 := by omega
        have h5' : (4 : Int) < (y.Ops.length : Int) := by omega
        rw [e]
        clear e h4 h5
        go_enter Tryd.func75, Tryd.ntmps75
        go_wp2_with (first | (go_at_call 106; refine (word32_any _ _).mono ?_; rintro e w' ⟨rfl, rfl⟩))
        go_ret
        exact ⟨rfl, Below.refl _ _⟩
      · have h4' : ¬ (y.Ops.length : Int) < 1 := by omega
        have h5' : ¬ (4 : Int) < (y.Ops.length : Int) := by omega
        have e0 : qaF y = if y.Ops.all okOp then 0 else 3 := by simp only [qaF, h1, if_true]; rw [if_pos (by omega)]
        have HE := hidH e0
        clear e0 h4 h5
        go_enter Tryd.func75, Tryd.ntmps75
        go_wp2_with (first | (go_at_call 106; refine (word32_any _ _).mono ?_; rintro e w' ⟨rfl, rfl⟩))
        go_loopw [3] (fun i wr => ∃ j : Nat, j ≤ y.Ops.length ∧ i = .int .i64 j ∧ wr = w ∧ (y.Ops.take j).all okOp = true) (fun i _ => y.Ops.length - (intOf i).toNat)
        case atStart => exact ⟨0, by omega, rfl, rfl, by simp⟩
        case round =>
          obtain ⟨j, hj, rfl, rfl, hk⟩ := hrel
          by_cases hlt : j < y.Ops.length
          · have hj0 : (0 : Int) ≤ (j : Int) := by omega
            have hj1 : (j : Int) < (y.Ops.length : Int) := by omega
            obtain ⟨gb, ob, cb, eb, hgb, RB⟩ := Rd.row (f := AddrOpM.vs) (W := 2) (fun _ => rfl) HI.out hlt
            injection eb with eb1 eb2 eb3
            subst eb1 eb3
            obtain ⟨u0, p0, t0⟩ := RB 0 (.int y.Ops[j].Kind) rfl
            obtain ⟨u1, p1, t1⟩ := RB 1 (.int y.Ops[j].Addr) rfl
            have e0 := t0.int_out
            have e1 := t1.int_out
            subst e0 e1
            rw [Nat.add_zero] at p0
            have HT := hidH (all_take hlt hk)
            have HN := hidH (fun h => all_not (f := okOp) hlt h)
            obtain ⟨k, hkk⟩ : ∃ k, y.Ops[j].Kind = k := ⟨_, rfl⟩
            obtain ⟨a, haa⟩ : ∃ a, y.Ops[j].Addr = a := ⟨_, rfl⟩
            have HO := hidH (show okOp y.Ops[j] = (inB k 1 3 && inB a 1 255) by rw [okOp, hkk, haa])
            rw [hkk] at p0
            rw [haa] at p1
            clear RB t0 t1 hk hkk haa
            by_cases hv : inB k 1 3 = true
            · by_cases hu : inB a 1 255 = true
              · have HY := hidH (HT.out (by rw [HO.out, hv, hu]; rfl))
                go_wp2_with (first | (go_at_call 107; refine (in_any _ _ _ _).mono ?_; rintro e w' ⟨rfl, rfl⟩) | (go_at_call 115; refine (l5Addr_any _ _).mono ?_; rintro e w' ⟨rfl, rfl⟩))
                go_roundw
                case rel => exact ⟨j + 1, by omega, by go_num, trivial, HY.out⟩
                case measure => simp [intOf]; omega
              · have hu : inB a 1 255 = false := by simpa using hu
                have HNO := hidH (show qaF y = 3 by rw [HE.out, if_neg (HN.out (by rw [HO.out, hv, hu]; rfl))])
                go_wp2_with (first | (go_at_call 107; refine (in_any _ _ _ _).mono ?_; rintro e w' ⟨rfl, rfl⟩) | (go_at_call 115; refine (l5Addr_any _ _).mono ?_; rintro e w' ⟨rfl, rfl⟩))
                go_ret
                exact ⟨ret_int HNO.out.symm, Below.refl _ _⟩
            · have hv : inB k 1 3 = false := by simpa using hv
              have HNO := hidH (show qaF y = 3 by rw [HE.out, if_neg (HN.out (by rw [HO.out, hv]; rfl))])
              go_wp2_with (first | (go_at_call 107; refine (in_any _ _ _ _).mono ?_; rintro e w' ⟨rfl, rfl⟩) | (go_at_call 115; refine (l5Addr_any _ _).mono ?_; rintro e w' ⟨rfl, rfl⟩))
              go_ret
              exact ⟨ret_int HNO.out.symm, Below.refl _ _⟩
          · obtain rfl : j = y.Ops.length := by omega
            rw [List.take_length] at hk
            have HY := hidH (show qaF y = 0 by rw [HE.out, if_pos hk])
            clear hk hlt hj
            go_wp2
            go_ret
            exact ⟨ret_int HY.out.symm, Below.refl _ _⟩
  · have h1 : wB y.Serial = false := by simpa using h1
    have e : qaF y = 3 := by simp [qaF, h1]
    rw [e]
    clear e
    go_enter Tryd.func75, Tryd.ntmps75
    go_wp2_with (first | (go_at_call 106; refine (word32_any _ _).mono ?_; rintro e w' ⟨rfl, rfl⟩))
    go_ret
    exact ⟨rfl, Below.refl _ _⟩
end Go.Proofs.YtjjileefdjjijaaDoor

/- Chapter 5 on numbers: reading: what each reader answers; greetings. -/
namespace Go.Proofs.YtjjileefdjjijaaDoor
open Go.RowKit Go.Deep

/-- The fault of a greeting's addresses, of a greeting; its chunk. -/
def adF : List Int → List Int → Int
  | _, [] => 0
  | s, x :: r => if inB x 1 255 then (if x ∈ s then 6 else adF (s ++ [x]) r) else 3
def inF (y : InitM) : Int := if inB y.Tag 1 4294967295 && wB y.Tsn then (if y.Random.length = 16 ∧ 1 ≤ y.Addrs.length ∧ y.Addrs.length ≤ 5 then (if adF [] y.Addrs = 0 then (if y.Cookie.length ≤ 100 then 0 else 2) else adF [] y.Addrs) else 2) else 3
def piF (y : InitM) (k : Int) : Int := if k = 1 ∨ k = 2 then inF y else 3
def inL (y : InitM) : List Int := pk y.Tag ++ pk y.Tsn ++ y.Random ++ ((y.Addrs.length : Int) :: y.Addrs) ++ [(y.Cookie.length : Int)] ++ y.Cookie
def piC (y : InitM) (k : Int) : ChunkM := ⟨k, 0, inL y⟩
def piR (y : InitM) (k : Int) : ChunkResultM := crOf (piF y k) (piC y k)
theorem adF_zero : ∀ (r s : List Int), adF s r = 0 → ∀ x ∈ r, 1 ≤ x ∧ x ≤ 255
  | [], _, _, _, h => by simp at h
  | x :: r, s, h, z, hz => by
    unfold adF at h
    split at h
    · next h1 =>
      simp [inB] at h1
      split at h
      · omega
      · rcases List.mem_cons.1 hz with rfl | hz
        · exact h1
        · exact adF_zero r _ h z hz
    · omega
theorem inF_zero {y : InitM} (h : inF y = 0) : (1 ≤ y.Tag ∧ y.Tag ≤ 4294967295) ∧ (0 ≤ y.Tsn ∧ y.Tsn ≤ 4294967295) ∧ (y.Random.length = 16 ∧ 1 ≤ y.Addrs.length ∧ y.Addrs.length ≤ 5) ∧ adF [] y.Addrs = 0 ∧ y.Cookie.length ≤ 100 := by
  unfold inF wB inB at h
  split at h
  · next h1 =>
    simp only [Bool.and_eq_true, decide_eq_true_eq] at h1
    split at h
    · next h2 =>
      split at h
      · next h3 =>
        split at h
        · next h4 => exact ⟨h1.1, h1.2, h2, h3, h4⟩
        · omega
      · next h3 => exact absurd h h3
    · omega
  · omega
theorem piF_zero {y : InitM} {k : Int} (h : piF y k = 0) : (k = 1 ∨ k = 2) ∧ inF y = 0 := by
  unfold piF at h
  split at h
  · next h1 => exact ⟨h1, h⟩
  · omega
theorem crOf_zero (c : ChunkM) : crOf 0 c = ⟨0, c.Kind, c.Flags, c.Body⟩ := rfl
theorem isM_iff (x : ChunkM) (f : Int) (c : ChunkM) : isM x (crOf f c) = true ↔ f = 0 ∧ x = c := by
  unfold isM crOf
  split
  · next h => cases x; cases c; simp [h, and_assoc]
  · next h => simp [h]

/-! Reading. -/
def pairAt (l : List Int) (k : Nat) : Int := l.getD k 0 * 256 + l.getD (k + 1) 0
theorem atW_pk {n : Int} (_h0 : 0 ≤ n) (_h1 : n ≤ 4294967295) (r : List Int) : atW (pk n ++ r) 0 = n := by simp [atW, pk]; omega
theorem pairAt_pairL (n : Int) (r : List Int) : pairAt (pairL n ++ r) 0 = n := by simp [pairAt, pairL]; omega
theorem getD_drop (l : List Int) (i k : Nat) : l.getD (i + k) 0 = (l.drop i).getD k 0 := by simp [List.getD_eq_getElem?_getD, List.getElem?_drop]
theorem atW_drop (l : List Int) (i : Nat) : atW l i = atW (l.drop i) 0 := by
  unfold atW; rw [← getD_drop, ← getD_drop, ← getD_drop, ← getD_drop]; simp
theorem pairAt_drop (l : List Int) (i : Nat) : pairAt l i = pairAt (l.drop i) 0 := by
  unfold pairAt; rw [← getD_drop, ← getD_drop]; simp
theorem drop_pk (n : Int) (r : List Int) : (pk n ++ r).drop 4 = r := by simp [pk]
theorem len_pk (n : Int) : (pk n).length = 4 := rfl
theorem len_pairL (n : Int) : (pairL n).length = 2 := rfl
/-- A data out of a chunk's flags and body. -/
def rdatV (f : Int) (L : List Int) : DataM := ⟨atW L 0, pairAt L 4, pairAt L 6, decide (f / 2 % 2 = 1), decide (f % 2 = 1), decide (f / 4 % 2 = 1), L.drop 8⟩
theorem rdat_ok {y : DataM} (h : pdF y = 0) : 8 ≤ (pdC y).Body.length ∧ rdatV (pdC y).Flags (pdC y).Body = y := by
  obtain ⟨⟨a1, a2⟩, ⟨b1, b2⟩, ⟨c1, c2⟩, d1, d2⟩ := pdF_zero h
  obtain ⟨t, s, q, f, l, u, p⟩ := y
  simp only at *
  refine ⟨by simp [pdC, pk, pairL], ?_⟩
  have e0 : atW (pdC ⟨t, s, q, f, l, u, p⟩).Body 0 = t := by simp [atW, pdC, pk]; omega
  have e1 : pairAt (pdC ⟨t, s, q, f, l, u, p⟩).Body 4 = s := by simp [pairAt, pdC, pk, pairL]; omega
  have e2 : pairAt (pdC ⟨t, s, q, f, l, u, p⟩).Body 6 = q := by simp [pairAt, pdC, pk, pairL]; omega
  have e3 : (pdC ⟨t, s, q, f, l, u, p⟩).Body.drop 8 = p := by simp [pdC, pk, pairL]
  unfold rdatV
  rw [e0, e1, e2, e3]
  cases f <;> cases l <;> cases u <;> rfl
def rdV (x : ChunkM) : Option DataM := if 8 ≤ x.Body.length ∧ isM x (pdR (rdatV x.Flags x.Body)) = true then some (rdatV x.Flags x.Body) else none
theorem rdV_iff (x : ChunkM) (y : DataM) : rdV x = some y ↔ isM x (pdR y) = true := by
  unfold rdV
  constructor
  · intro h
    split at h
    · next h1 => rw [← Option.some.inj h]; exact h1.2
    · cases h
  · intro h
    obtain ⟨h1, rfl⟩ := (isM_iff _ _ _).1 h
    obtain ⟨h2, h3⟩ := rdat_ok h1
    rw [h3, if_pos ⟨h2, h⟩]
/-- What a reader answers: the value whose chunk it is, or a code. -/
def rdOf (x : ChunkM) : Int := if chF x.Kind x.Flags x.Body = 0 then 5 else chF x.Kind x.Flags x.Body
def rdR (x : ChunkM) : DataResultM := match rdV x with | some d => ⟨0, d.Tsn, d.Stream, d.Seq, d.First, d.Last, d.Unordered, d.Piece⟩ | none => ⟨rdOf x, 0, 0, 0, false, false, false, []⟩
theorem chF_ok {k f : Int} {b : List Int} (h0 : 0 ≤ k ∧ k ≤ 255) (h1 : 0 ≤ f ∧ f ≤ 255) (h2 : b.length ≤ 160) : chF k f b = 0 := by
  unfold chF inB
  rw [if_pos (by simp [h0, h1]), if_pos h2]
theorem chF_data {x : ChunkM} {y : DataM} (h : isM x (pdR y) = true) : chF x.Kind x.Flags x.Body = 0 := by
  obtain ⟨h1, rfl⟩ := (isM_iff _ _ _).1 h
  obtain ⟨_, _, _, d1, d2⟩ := pdF_zero h1
  refine chF_ok (by simp [pdC]) ?_ (by simp [pdC, pk, pairL]; omega)
  show 0 ≤ bitN _ 1 + bitN _ 2 + bitN _ 4 ∧ bitN _ 1 + bitN _ 2 + bitN _ 4 ≤ 255
  cases y.Last <;> cases y.First <;> cases y.Unordered <;> decide

def gapsOf : List Int → List GapM
  | a :: b :: c :: d :: r => ⟨a * 256 + b, c * 256 + d⟩ :: gapsOf r
  | _ => []
theorem gapsOf_flat : ∀ (r : List GapM), gapsOf (r.flatMap gapL) = r
  | [] => rfl
  | ⟨f, t⟩ :: r => by
    rw [List.flatMap_cons]
    show gapsOf (f / 256 :: f % 256 :: t / 256 :: t % 256 :: r.flatMap gapL) = _
    rw [gapsOf, gapsOf_flat r]
    congr 2 <;> omega
theorem gap_len (r : List GapM) : (r.flatMap gapL).length = 4 * r.length := by
  induction r with
  | nil => rfl
  | cons x r ih => rw [List.flatMap_cons, List.length_append, ih]; simp [gapL, pairL]; omega
def rsakV (L : List Int) : SackM := ⟨atW L 0, gapsOf (L.drop 5)⟩
theorem rsak_ok {y : SackM} (h : ksF y = 0) : 5 ≤ (ksC y).Body.length ∧ rsakV (ksC y).Body = y := by
  obtain ⟨⟨a1, a2⟩, b, c⟩ := ksF_zero h
  obtain ⟨n, r⟩ := y
  simp only at *
  refine ⟨by simp [ksC, pk], ?_⟩
  have e0 : atW (ksC ⟨n, r⟩).Body 0 = n := by simp [atW, ksC, pk]; omega
  have e3 : (ksC ⟨n, r⟩).Body.drop 5 = r.flatMap gapL := by simp [ksC, pk]
  unfold rsakV
  rw [e0, e3, gapsOf_flat]
def rsV (x : ChunkM) : Option SackM := if 5 ≤ x.Body.length ∧ isM x (ksR (rsakV x.Body)) = true then some (rsakV x.Body) else none
theorem rsV_iff (x : ChunkM) (y : SackM) : rsV x = some y ↔ isM x (ksR y) = true := by
  unfold rsV
  constructor
  · intro h
    split at h
    · next h1 => rw [← Option.some.inj h]; exact h1.2
    · cases h
  · intro h
    obtain ⟨h1, rfl⟩ := (isM_iff _ _ _).1 h
    obtain ⟨h2, h3⟩ := rsak_ok h1
    rw [h3, if_pos ⟨h2, h⟩]
def rsR (x : ChunkM) : SackResultM := match rsV x with | some d => ⟨0, d.Cum, d.Gaps⟩ | none => ⟨rdOf x, 0, []⟩
theorem chF_sack {x : ChunkM} {y : SackM} (h : isM x (ksR y) = true) : chF x.Kind x.Flags x.Body = 0 := by
  obtain ⟨h1, rfl⟩ := (isM_iff _ _ _).1 h
  obtain ⟨_, b, _⟩ := ksF_zero h1
  exact chF_ok (by simp [ksC]) (by simp [ksC]) (by simp [ksC, pk, -List.length_flatMap, gap_len]; omega)

def opsOf : List Int → List AddrOpM
  | a :: b :: r => ⟨a, b⟩ :: opsOf r
  | _ => []
theorem opsOf_flat : ∀ (r : List AddrOpM), opsOf (r.flatMap opL) = r
  | [] => rfl
  | ⟨f, t⟩ :: r => by
    rw [List.flatMap_cons]
    show opsOf (f :: t :: r.flatMap opL) = _
    rw [opsOf, opsOf_flat r]
theorem op_len (r : List AddrOpM) : (r.flatMap opL).length = 2 * r.length := by
  induction r with
  | nil => rfl
  | cons x r ih => rw [List.flatMap_cons, List.length_append, ih]; simp [opL]; omega
def raskV (L : List Int) : AsconfM := ⟨atW L 0, opsOf (L.drop 5)⟩
theorem rask_ok {y : AsconfM} (h : qaF y = 0) : 5 ≤ (qaC y).Body.length ∧ raskV (qaC y).Body = y := by
  obtain ⟨⟨a1, a2⟩, b, c⟩ := qaF_zero h
  obtain ⟨n, r⟩ := y
  simp only at *
  refine ⟨by simp [qaC, pk], ?_⟩
  have e0 : atW (qaC ⟨n, r⟩).Body 0 = n := by simp [atW, qaC, pk]; omega
  have e3 : (qaC ⟨n, r⟩).Body.drop 5 = r.flatMap opL := by simp [qaC, pk]
  unfold raskV
  rw [e0, e3, opsOf_flat]
def rqV (x : ChunkM) : Option AsconfM := if 5 ≤ x.Body.length ∧ isM x (qaR (raskV x.Body)) = true then some (raskV x.Body) else none
theorem rqV_iff (x : ChunkM) (y : AsconfM) : rqV x = some y ↔ isM x (qaR y) = true := by
  unfold rqV
  constructor
  · intro h
    split at h
    · next h1 => rw [← Option.some.inj h]; exact h1.2
    · cases h
  · intro h
    obtain ⟨h1, rfl⟩ := (isM_iff _ _ _).1 h
    obtain ⟨h2, h3⟩ := rask_ok h1
    rw [h3, if_pos ⟨h2, h⟩]
def rqR (x : ChunkM) : AsconfResultM := match rqV x with | some d => ⟨0, d.Serial, d.Ops⟩ | none => ⟨rdOf x, 0, []⟩
theorem chF_ask {x : ChunkM} {y : AsconfM} (h : isM x (qaR y) = true) : chF x.Kind x.Flags x.Body = 0 := by
  obtain ⟨h1, rfl⟩ := (isM_iff _ _ _).1 h
  obtain ⟨_, b, _⟩ := qaF_zero h1
  exact chF_ok (by simp [qaC]) (by simp [qaC]) (by simp [qaC, pk, -List.length_flatMap, op_len]; omega)

/-- A count at a place and what stands behind it: is it there, what is it. -/
def cntN (L : List Int) (k : Nat) : Nat := (L.getD k 0).toNat
def cntOk (L : List Int) (k : Nat) : Prop := k < L.length ∧ k + 1 + cntN L k ≤ L.length
instance (L : List Int) (k : Nat) : Decidable (cntOk L k) := by unfold cntOk; exact inferInstance
def cntL (L : List Int) (k : Nat) : List Int := (L.drop (k + 1)).take (cntN L k)
theorem cnt_mid (a b r : List Int) (k : Nat) (hk : k = a.length) : cntOk (a ++ ((b.length : Int) :: b) ++ r) k ∧ cntL (a ++ ((b.length : Int) :: b) ++ r) k = b ∧ cntN (a ++ ((b.length : Int) :: b) ++ r) k = b.length := by
  subst hk
  have e : cntN (a ++ ((b.length : Int) :: b) ++ r) a.length = b.length := by
    unfold cntN
    rw [List.getD_eq_getElem?_getD, List.append_assoc, List.getElem?_append_right (Nat.le_refl _)]
    simp
  refine ⟨⟨by simp <;> omega, by rw [e]; simp <;> omega⟩, ?_, e⟩
  unfold cntL
  rw [e, List.append_assoc, List.drop_append, List.drop_eq_nil_of_le (by omega), show a.length + 1 - a.length = 1 by omega]
  simp
def rawV (L : List Int) : AnswerM := ⟨atW L 0, cntL L 4⟩
theorem raw_ok {y : AnswerM} (h : paF y = 0) : cntOk (paC y).Body 4 ∧ rawV (paC y).Body = y := by
  obtain ⟨⟨a1, a2⟩, b, c⟩ := paF_zero h
  obtain ⟨n, r⟩ := y
  simp only at *
  have := cnt_mid (pk n) r [] 4 rfl
  rw [List.append_nil] at this
  refine ⟨this.1, ?_⟩
  have e0 : atW (paC ⟨n, r⟩).Body 0 = n := by simp [atW, paC, pk]; omega
  unfold rawV
  rw [e0]
  show AnswerM.mk n (cntL (pk n ++ ((r.length : Int) :: r)) 4) = _
  rw [this.2.1]
def rwV (x : ChunkM) : Option AnswerM := if cntOk x.Body 4 ∧ isM x (paR (rawV x.Body)) = true then some (rawV x.Body) else none
theorem rwV_iff (x : ChunkM) (y : AnswerM) : rwV x = some y ↔ isM x (paR y) = true := by
  unfold rwV
  constructor
  · intro h
    split at h
    · next h1 => rw [← Option.some.inj h]; exact h1.2
    · cases h
  · intro h
    obtain ⟨h1, rfl⟩ := (isM_iff _ _ _).1 h
    obtain ⟨h2, h3⟩ := raw_ok h1
    rw [h3, if_pos ⟨h2, h⟩]
def rwR (x : ChunkM) : AnswerResultM := match rwV x with | some d => ⟨0, d.Serial, d.Codes⟩ | none => ⟨rdOf x, 0, []⟩
theorem chF_ans {x : ChunkM} {y : AnswerM} (h : isM x (paR y) = true) : chF x.Kind x.Flags x.Body = 0 := by
  obtain ⟨h1, rfl⟩ := (isM_iff _ _ _).1 h
  obtain ⟨_, b, _⟩ := paF_zero h1
  exact chF_ok (by simp [paC]) (by simp [paC]) (by simp [paC, pk]; omega)

def rinV (L : List Int) : InitM := ⟨atW L 0, atW L 4, (L.drop 8).take 16, cntL L 24, cntL L (25 + cntN L 24)⟩
def rinOk (L : List Int) : Prop := 24 ≤ L.length ∧ cntOk L 24 ∧ cntOk L (25 + cntN L 24)
instance (L : List Int) : Decidable (rinOk L) := by unfold rinOk; exact inferInstance
theorem rin_ok {y : InitM} (h : inF y = 0) : rinOk (inL y) ∧ rinV (inL y) = y := by
  obtain ⟨⟨a1, a2⟩, ⟨b1, b2⟩, ⟨c1, c2⟩, _, d⟩ := inF_zero h
  obtain ⟨t, n, r, l, k⟩ := y
  simp only at *
  have q1 := cnt_mid (pk t ++ pk n ++ r) l ([(k.length : Int)] ++ k) 24 (by simp [pk]; omega)
  have q2 := cnt_mid (pk t ++ pk n ++ r ++ ((l.length : Int) :: l)) k [] (25 + l.length) (by simp [pk]; omega)
  have e1 : inL ⟨t, n, r, l, k⟩ = pk t ++ pk n ++ r ++ ((l.length : Int) :: l) ++ ([(k.length : Int)] ++ k) := by unfold inL; simp only [List.append_assoc]
  have e2 : inL ⟨t, n, r, l, k⟩ = pk t ++ pk n ++ r ++ ((l.length : Int) :: l) ++ ((k.length : Int) :: k) ++ [] := by rw [e1]; simp
  rw [← e1] at q1
  rw [← e2] at q2
  rw [← q1.2.2] at q2
  have e0 : atW (inL ⟨t, n, r, l, k⟩) 0 = t := by rw [e1]; simp [atW, pk]; omega
  have e4 : atW (inL ⟨t, n, r, l, k⟩) 4 = n := by rw [e1]; simp [atW, pk]; omega
  have e8 : ((inL ⟨t, n, r, l, k⟩).drop 8).take 16 = r := by rw [e1]; simp [pk, ← c1]
  refine ⟨⟨by have := q1.1.1; omega, q1.1, q2.1⟩, ?_⟩
  unfold rinV
  rw [e0, e4, e8, q1.2.1, q2.2.1]
def riV (x : ChunkM) : Option InitM := if rinOk x.Body ∧ isM x (piR (rinV x.Body) x.Kind) = true then some (rinV x.Body) else none
theorem riV_iff (x : ChunkM) (y : InitM) : riV x = some y ↔ isM x (piR y x.Kind) = true := by
  unfold riV
  constructor
  · intro h
    split at h
    · next h1 => rw [← Option.some.inj h]; exact h1.2
    · cases h
  · intro h
    obtain ⟨h1, h0⟩ := (isM_iff _ _ _).1 h
    obtain ⟨h2, h3⟩ := rin_ok (piF_zero h1).2
    have hb : x.Body = inL y := by rw [h0]; rfl
    rw [hb, h3, if_pos ⟨h2, h⟩]
def riR (x : ChunkM) : InitResultM := match riV x with | some d => ⟨0, d.Tag, d.Tsn, d.Random, d.Addrs, d.Cookie⟩ | none => ⟨rdOf x, 0, 0, [], [], []⟩
theorem chF_init {x : ChunkM} {y : InitM} (h : isM x (piR y x.Kind) = true) : chF x.Kind x.Flags x.Body = 0 := by
  obtain ⟨h1, h0⟩ := (isM_iff _ _ _).1 h
  obtain ⟨h2, h3⟩ := piF_zero h1
  obtain ⟨_, _, ⟨c1, c2, c3⟩, _, d⟩ := inF_zero h3
  have hb : x.Body = inL y := by rw [h0]; rfl
  have hf : x.Flags = 0 := by rw [h0]; rfl
  exact chF_ok (by omega) (by omega) (by rw [hb]; simp [inL, pk]; omega)

/-! The program's readers: what stands there, if enough stands there. -/
theorem rd_by {α : Type} {P R : Option α} {M : α → Bool} (hp : ∀ y, M y = true → P = some y) (hr : ∀ y, R = some y ↔ M y = true) : (∀ y, P = some y → M y = true → R = some y) ∧ (∀ y, P = some y → M y = false → R = none) ∧ (P = none → R = none) := by
  refine ⟨fun y _ h => (hr y).2 h, fun y h1 h2 => ?_, fun h1 => ?_⟩
  · cases e : R with
    | none => rfl
    | some z =>
      have h3 := (hr z).1 e
      have h4 := hp z h3
      rw [h1] at h4
      cases h4
      rw [h2] at h3
      cases h3
  · cases e : R with
    | none => rfl
    | some z =>
      have h4 := hp z ((hr z).1 e)
      rw [h1] at h4
      cases h4
def pdV (fb lb ub : Int → Bool) (f : Int) (L : List Int) : Option DataM := if 8 ≤ L.length then some ⟨atW L 0, pairAt L 4, pairAt L 6, fb f, lb f, ub f, L.drop 8⟩ else none
theorem pd_ok {fb lb ub : Int → Bool} (hb : ∀ f : Int, 0 ≤ f → f ≤ 7 → fb f = decide (f / 2 % 2 = 1) ∧ lb f = decide (f % 2 = 1) ∧ ub f = decide (f / 4 % 2 = 1)) {x : ChunkM} (y : DataM) (h : isM x (pdR y) = true) : pdV fb lb ub x.Flags x.Body = some y := by
  obtain ⟨h1, rfl⟩ := (isM_iff _ _ _).1 h
  obtain ⟨h2, h3⟩ := rdat_ok h1
  have hf : 0 ≤ (pdC y).Flags ∧ (pdC y).Flags ≤ 7 := by
    show 0 ≤ bitN _ 1 + bitN _ 2 + bitN _ 4 ∧ bitN _ 1 + bitN _ 2 + bitN _ 4 ≤ 7
    cases y.Last <;> cases y.First <;> cases y.Unordered <;> decide
  obtain ⟨e1, e2, e3⟩ := hb _ hf.1 hf.2
  unfold pdV
  rw [if_pos h2, e1, e2, e3]
  exact congrArg some h3
def psV (L : List Int) : Option SackM := if 5 ≤ L.length ∧ 5 + 4 * cntN L 4 ≤ L.length then some ⟨atW L 0, gapsOf ((L.drop 5).take (4 * cntN L 4))⟩ else none
theorem ps_ok {x : ChunkM} (y : SackM) (h : isM x (ksR y) = true) : psV x.Body = some y := by
  obtain ⟨h1, rfl⟩ := (isM_iff _ _ _).1 h
  obtain ⟨h2, h3⟩ := rsak_ok h1
  have hn : cntN (ksC y).Body 4 = y.Gaps.length := by simp [cntN, ksC, pk]
  have hl : (ksC y).Body.length = 5 + 4 * y.Gaps.length := by simp [ksC, pk, -List.length_flatMap, gap_len]; omega
  unfold psV
  rw [hn, if_pos ⟨h2, by omega⟩, List.take_of_length_le (by rw [List.length_drop]; omega)]
  exact congrArg some h3
def pqV (L : List Int) : Option AsconfM := if 5 ≤ L.length ∧ 5 + 2 * cntN L 4 ≤ L.length then some ⟨atW L 0, opsOf ((L.drop 5).take (2 * cntN L 4))⟩ else none
theorem pq_ok {x : ChunkM} (y : AsconfM) (h : isM x (qaR y) = true) : pqV x.Body = some y := by
  obtain ⟨h1, rfl⟩ := (isM_iff _ _ _).1 h
  obtain ⟨h2, h3⟩ := rask_ok h1
  have hn : cntN (qaC y).Body 4 = y.Ops.length := by simp [cntN, qaC, pk]
  have hl : (qaC y).Body.length = 5 + 2 * y.Ops.length := by simp [qaC, pk, -List.length_flatMap, op_len]; omega
  unfold pqV
  rw [hn, if_pos ⟨h2, by omega⟩, List.take_of_length_le (by rw [List.length_drop]; omega)]
  exact congrArg some h3
def pwV (L : List Int) : Option AnswerM := if cntOk L 4 then some (rawV L) else none
theorem pw_ok {x : ChunkM} (y : AnswerM) (h : isM x (paR y) = true) : pwV x.Body = some y := by
  obtain ⟨h1, rfl⟩ := (isM_iff _ _ _).1 h
  obtain ⟨h2, h3⟩ := raw_ok h1
  unfold pwV
  rw [if_pos h2, h3]
def piV (L : List Int) : Option InitM := if rinOk L then some (rinV L) else none
theorem pi_ok {x : ChunkM} (y : InitM) (h : isM x (piR y x.Kind) = true) : piV x.Body = some y := by
  obtain ⟨h1, h0⟩ := (isM_iff _ _ _).1 h
  obtain ⟨h2, h3⟩ := rin_ok (piF_zero h1).2
  have hb : x.Body = inL y := by rw [h0]; rfl
  unfold piV
  rw [hb, if_pos h2, h3]
/-- What lies in a chunk. -/
inductive Ct where
  | no
  | data (y : DataM)
  | sack (y : SackM)
  | init (k : Int) (y : InitM)
  | ask (y : AsconfM)
  | ans (y : AnswerM)
def ctM (x : ChunkM) : Ct :=
  if x.Kind = 0 then (match rdV x with | some y => .data y | none => .no)
  else if x.Kind = 3 then (match rsV x with | some y => .sack y | none => .no)
  else if x.Kind = 1 ∨ x.Kind = 2 then (match riV x with | some y => .init x.Kind y | none => .no)
  else if x.Kind = 193 then (match rqV x with | some y => .ask y | none => .no)
  else if x.Kind = 128 then (match rwV x with | some y => .ans y | none => .no)
  else .no
theorem rdV_kind {x : ChunkM} {y : DataM} (h : rdV x = some y) : x.Kind = 0 := by
  obtain ⟨_, e⟩ := (isM_iff _ _ _).1 ((rdV_iff x y).1 h)
  rw [e]; rfl
theorem rsV_kind {x : ChunkM} {y : SackM} (h : rsV x = some y) : x.Kind = 3 := by
  obtain ⟨_, e⟩ := (isM_iff _ _ _).1 ((rsV_iff x y).1 h)
  rw [e]; rfl
theorem riV_kind {x : ChunkM} {y : InitM} (h : riV x = some y) : x.Kind = 1 ∨ x.Kind = 2 := (piF_zero ((isM_iff _ _ _).1 ((riV_iff x y).1 h)).1).1
theorem rqV_kind {x : ChunkM} {y : AsconfM} (h : rqV x = some y) : x.Kind = 193 := by
  obtain ⟨_, e⟩ := (isM_iff _ _ _).1 ((rqV_iff x y).1 h)
  rw [e]; rfl
theorem rwV_kind {x : ChunkM} {y : AnswerM} (h : rwV x = some y) : x.Kind = 128 := by
  obtain ⟨_, e⟩ := (isM_iff _ _ _).1 ((rwV_iff x y).1 h)
  rw [e]; rfl
theorem ct_data (x : ChunkM) (y : DataM) : ctM x = .data y ↔ rdV x = some y := by
  constructor
  · intro h
    unfold ctM at h
    (repeat' split at h) <;> first | (cases h; done) | (cases h; assumption)
  · intro h
    unfold ctM
    rw [if_pos (rdV_kind h), h]
theorem ct_sack (x : ChunkM) (y : SackM) : ctM x = .sack y ↔ rsV x = some y := by
  constructor
  · intro h
    unfold ctM at h
    (repeat' split at h) <;> first | (cases h; done) | (cases h; assumption)
  · intro h
    have hk := rsV_kind h
    unfold ctM
    rw [if_neg (by omega), if_pos hk, h]
theorem ct_init (x : ChunkM) (y : InitM) : ctM x = .init x.Kind y ↔ riV x = some y := by
  constructor
  · intro h
    unfold ctM at h
    (repeat' split at h) <;> first | (cases h; done) | (cases h; assumption)
  · intro h
    have hk := riV_kind h
    unfold ctM
    rw [if_neg (by omega), if_neg (by omega), if_pos hk, h]
theorem ct_init' (x : ChunkM) (k : Int) (y : InitM) (h : ctM x = .init k y) : k = x.Kind := by
  unfold ctM at h
  (repeat' split at h) <;> first | (cases h; done) | (cases h; rfl)
theorem ct_ask (x : ChunkM) (y : AsconfM) : ctM x = .ask y ↔ rqV x = some y := by
  constructor
  · intro h
    unfold ctM at h
    (repeat' split at h) <;> first | (cases h; done) | (cases h; assumption)
  · intro h
    have hk := rqV_kind h
    unfold ctM
    rw [if_neg (by omega), if_neg (by omega), if_neg (by omega), if_pos hk, h]
theorem ct_ans (x : ChunkM) (y : AnswerM) : ctM x = .ans y ↔ rwV x = some y := by
  constructor
  · intro h
    unfold ctM at h
    (repeat' split at h) <;> first | (cases h; done) | (cases h; assumption)
  · intro h
    have hk := rwV_kind h
    unfold ctM
    rw [if_neg (by omega), if_neg (by omega), if_neg (by omega), if_neg (by omega), if_pos hk, h]
end Go.Proofs.YtjjileefdjjijaaDoor

/- The program's byteReader in chapter 5: pair, copied, copiedRest, numbers, data. -/
namespace Go.Proofs.YtjjileefdjjijaaDoor
open Go.RowKit Go.Deep

theorem Win.andBelow5 {B C : Nat} {a b c : World} (h : Win B C a b) (k : Below a.heap.size b c) : Win B C a c :=
  ⟨k.os.trans h.os, k.tape.trans h.tape, k.output.trans h.output, Nat.le_trans h.size k.size, fun g hg ho => (k.block g hg).trans (h.block g hg ho), fun x hx => (k.frozen hx).trans (h.frozen x hx)⟩
theorem bsc {B : Nat} {a w : World} (h : Below B a w) {g i : Nat} (hg : B ≤ g) (u : Value) : Below B a (w.setCell ⟨g, i, none⟩ u) := h.setCell (p := ⟨g, i, none⟩) hg u
/-- Numbers of the call's own, in a row. -/
theorem own_oiI {w : World} {B : Nat} {v : Value} {d : List Int} (h : w.ownsRow B 2 1 v d.length (d.map (Value.int .i64))) :
    ∃ A cp, v = .slice A d.length cp ∧ Oi B w.heap.size w A d ∧ d.length ≤ cp ∧ (cp : Int) ≤ 9223372036854775807 := by
  have hc := fun g hg => h.cells (g := g) hg
  have hl := h.lt
  obtain ⟨_, ⟨rfl, hn⟩ | ⟨g, cap, cur, rfl, hg, hblk, hnc, hm, _, _⟩⟩ := h
  · have : d = [] := List.eq_nil_of_length_eq_zero hn
    subst this
    exact ⟨none, 0, rfl, .inl rfl, Nat.le_refl _, by omega⟩
  · unfold maxLen at hm
    refine ⟨_, cap, rfl, .inr ⟨g, 0, rfl, hg, (hl g rfl).2, Nat.le_refl _, fun j hj => ⟨?_, ?_⟩⟩, hnc, by omega⟩
    · have h1 := hc g rfl j (.int .i64 (d.getD j 0)) (by simp [hj])
      rw [add_off, Nat.zero_add] at h1
      rw [Nat.zero_add]
      exact h1
    · exact (show Blk w g 2 cur from hblk).frozen _
theorem own_oiN {w : World} {B n : Nat} {v : Value} {d : List Int} (h : w.ownsRow B 2 1 v n (d.map (Value.int .i64))) (hn : d.length = n) :
    ∃ A cp, v = .slice A n cp ∧ Oi B w.heap.size w A d ∧ d.length ≤ cp ∧ (cp : Int) ≤ 9223372036854775807 := by
  subst hn
  exact own_oiI h
theorem wpList_append_i1 {w : World} {ops : Array Oper} {rest : List Oper} {o : Oper} {a : Act} {Q : Exit → Act → World → Prop} (hgd : o.guard = none) (s x : Operand)
    (ho : o.op = .call { callee := .builtin .append, args := #[s, x], argTypes := #[37, 37] })
    (base : Nat) (v : Value) (n : Nat) (xs : List Value) (hs : a.eval s = v) (hown : w.ownsRow base 2 1 v n xs)
    (q t : Nat) (z : Int) (hx : a.eval x = .slice (some ⟨q, 0, none⟩) 1 1) (hq : Blk w q t #[.int .i64 z]) (hm : n ≤ 100000) (hbase : base ≤ w.heap.size)
    (h : ∀ v' w', w'.ownsRow base 2 1 v' (n + 1) (xs ++ [.int .i64 z]) → w.grownBy w' v.ownBlock → wpList Tryd.prog ops Q rest (a.put o.dst v') w') : wpList Tryd.prog ops Q (o :: rest) a w := by
  obtain ⟨i0, hi, hzz⟩ := Option.map_eq_some_iff.1 infoI64
  simp only [Prod.mk.injEq] at hzz
  obtain ⟨hz0, hz1, hz2⟩ := hzz
  refine wpList_append_own w hgd s x 37 ho base 2 i0 (.int .i64 0) 1 8 Tryd.underlying37 hi hz0 hz1 hz2 rfl (by decide) v n xs hs hown ⟨q, 0, none⟩ 1 1 [.int .i64 z] hx rfl
    (fun j u hu => ?_) (fun u hu => ?_) (by unfold maxLen; omega) (by omega) hbase (fun v' w' h1 h2 _ => h v' w' h1 h2)
  · have e : (⟨q, 0, none⟩ : Addr).add j = ⟨q, j, none⟩ := by rw [add_off, Nat.zero_add]
    rw [e, hq.cell, ← hu]
    simp
  · simp only [List.mem_cons, List.not_mem_nil, or_false] at hu
    subst hu; rfl
theorem RE.mem {w : World} {r : Nat} {ty : TypeId} {pv : Value} {l : List Int} (h : RE w r ty pv l) (k : Nat) : Bytes (l.drop k) := fun x hx => h.by_ x (List.mem_of_mem_drop hx)
theorem pair_ok' (r : Nat) (l : List Int) (w : World) (ty : TypeId) (pv : Value) (h : RE w r ty pv l) (h2 : 2 ≤ l.length) :
    Calls Tryd.prog 136 #[.pointer (some ⟨r, 0, none⟩)] w fun e w' => e = .returned (.int .i64 (pairAt l 0)) ∧ RE w' r ty pv (l.drop 2) ∧ Win r (r + 1) w w' ∧ w'.heap.size = w.heap.size := by
  match l, h2, h with
  | x :: y :: l, _, h => exact pair_ok r x y l w ty pv h
theorem number_ok' (r : Nat) (l : List Int) (w : World) (ty : TypeId) (pv : Value) (h : RE w r ty pv l) (h1 : 1 ≤ l.length) :
    Calls Tryd.prog 138 #[.pointer (some ⟨r, 0, none⟩)] w fun e w' => e = .returned (.int .i64 (l.getD 0 0)) ∧ RE w' r ty pv (l.drop 1) ∧ Win r (r + 1) w w' ∧ w'.heap.size = w.heap.size := by
  match l, h1, h with
  | x :: l, _, h => exact number_ok r x l w ty pv h
/-- A word that does not stand there. -/
theorem word_bad (r : Nat) (l : List Int) (w : World) (ty : TypeId) (pv : Value) (h : RE w r ty pv l) (h4 : l.length < 4) :
    Calls Tryd.prog 135 #[.pointer (some ⟨r, 0, none⟩)] w fun e w' => e = PanE (.iface ty pv) ∧ Win r (r + 1) w w' := by
  have HT := hidH (take_bad r 4 l w ty pv h.rd (.inr (by omega)) h.e)
  clear h h4
  unfold PanE at HT ⊢
  go_enter Tryd.func135, Tryd.ntmps135
  go_wp2_with fail
  refine HT.out.mono ?_
  rintro e w1 ⟨rfl, rfl⟩
  clear HT
  go_wp2
  exact ⟨rfl, rfl, Win.refl _ _ _⟩
/-- What a reader of bytes leaves: bytes of its own. -/
def CopRes (r : Nat) (ty : TypeId) (pv : Value) (d rest : List Int) (w : World) (e : Ending) (w' : World) : Prop :=
  ∃ A c, e = .returned (.slice A d.length c) ∧ OwV w.heap.size w'.heap.size w' (.bs d) (.slice A d.length c) ∧ RE w' r ty pv rest ∧ Win r (r + 1) w w'
set_option maxHeartbeats 1000000 in
theorem copied_ok (r n : Nat) (l : List Int) (w : World) (ty : TypeId) (pv : Value) (h : RE w r ty pv l) (hn : n ≤ l.length) (hm : l.length ≤ 4000000) :
    Calls Tryd.prog 139 #[.pointer (some ⟨r, 0, none⟩), .int .i64 (n : Int)] w (CopRes r ty pv (l.take n) (l.drop n) w) := by
  have HT := hidH (take_ok r n l w h.rd hn)
  have HH := hidH h
  have hll : (l.take n).length = n := by rw [List.length_take]; omega
  have HL := hidH (And.intro hll (And.intro hm hn))
  clear h hn hm hll
  go_enter Tryd.func139, Tryd.ntmps139
  go_wp2_with fail
  refine HT.out.mono ?_
  rintro e w1 ⟨A, c, rfl, hA, hc, hf, hr, hw, hs⟩
  have HCL := hidH (clone_any A (l.take n) c w1 hA (by rw [HL.out.1]; have := HL.out; omega))
  rw [HL.out.1] at HCL
  have HR := hidH (HH.out.turn hw hr (fun y hy => List.mem_of_mem_drop hy))
  have HW := hidH (And.intro hw hs)
  clear HT hA hc hf hr hw hs
  go_wp2_with fail
  refine HCL.out.mono ?_
  rintro e w2 ⟨v2, rfl, o2, b2⟩
  obtain ⟨A2, c2, e2, ob2, k2, m2⟩ := own_ob o2
  have HOB := hidH (show OwV w.heap.size w2.heap.size w2 (.bs (l.take n)) (.slice A2 (l.take n).length c2) by rw [← HW.out.2]; exact ob2.owv (Nat.le_refl _) ⟨k2, m2⟩)
  rw [HL.out.1] at e2
  subst e2
  have HR2 := hidH (HR.out.below b2)
  have HW2 := hidH (HW.out.1.trans (Win.of_below b2))
  clear HCL o2 ob2 k2 m2 b2
  go_wp2
  go_ret
  exact ⟨A2, c2, by rw [HL.out.1]; rfl, HOB.out, HR2.out, HW2.out⟩
set_option maxHeartbeats 1000000 in
theorem copied_bad (r : Nat) (n : Int) (l : List Int) (w : World) (ty : TypeId) (pv : Value) (h : RE w r ty pv l) (hn : n < 0 ∨ (l.length : Int) < n) :
    Calls Tryd.prog 139 #[.pointer (some ⟨r, 0, none⟩), .int .i64 n] w fun e w' => e = PanE (.iface ty pv) ∧ Win r (r + 1) w w' := by
  have HT := hidH (take_bad r n l w ty pv h.rd hn h.e)
  clear h hn
  unfold PanE at HT ⊢
  go_enter Tryd.func139, Tryd.ntmps139
  go_wp2_with fail
  refine HT.out.mono ?_
  rintro e w1 ⟨rfl, rfl⟩
  clear HT
  go_wp2
  exact ⟨rfl, rfl, Win.refl _ _ _⟩
set_option maxHeartbeats 1000000 in
theorem copiedRest_ok (r : Nat) (l : List Int) (w : World) (ty : TypeId) (pv : Value) (h : RE w r ty pv l) (hm : l.length ≤ 4000000) :
    Calls Tryd.prog 137 #[.pointer (some ⟨r, 0, none⟩)] w (CopRes r ty pv l [] w) := by
  have HC := copied_ok r l.length l w ty pv h (Nat.le_refl _) hm
  rw [List.take_length, List.drop_length] at HC
  replace HC := hidH HC
  obtain ⟨A, c, K, _, hc, hcm, _⟩ := h.rd
  have k0 := K.cell 0
  have hk := K.lt
  simp only [List.getElem?_toArray, List.getElem?_cons_zero] at k0
  have hlm : (l.length : Int) ≤ 4000000 := by omega
  clear h hm K hc hcm
  go_enter Tryd.func137, Tryd.ntmps137
  go_wp2_with fail
  refine HC.out.mono ?_
  rintro e w2 ⟨A2, c2, rfl, h2⟩
  have HR := hidH h2
  clear HC h2
  go_wp2
  go_ret
  exact ⟨A2, c2, rfl, HR.out⟩
end Go.Proofs.YtjjileefdjjijaaDoor
