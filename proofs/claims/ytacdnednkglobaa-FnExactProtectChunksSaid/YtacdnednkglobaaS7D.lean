/- Chapter 7: the program's digestOf. -/
import Derived.Test.YtacdnednkglobaaMb1
import Derived.Test.YtacdnednkglobaaS7P
import Derived.Test.YtacdnednkglobaaHmI
namespace Go.Proofs.Ytacdnednkglobaa
open Go.RowKit Go.Deep

def dgL (id : Int) (key : List Int) (r : List ChunkM) : List Int := if mtF id r = 0 then hmL key (txtL id r) else []
def DgR (id : Int) (key : List Int) (r : List ChunkM) (w : World) (e : Ending) (w' : World) : Prop :=
  ∃ (A : Option Addr) (c : Nat), e = .returned (.agg #[.int .i64 (mtF id r), .slice A (dgL id key r).length c]) ∧ Bs w' A (dgL id key r) ∧ Below w.heap.size w w'
set_option maxRecDepth 100000 in
set_option maxHeartbeats 4000000 in
theorem digestOf_any (id : Int) (key : List Int) (vk : Value) (r : List ChunkM) (v : Value) (u : World) (hw : WfV (.int id)) (hk : Rd u (.bs key) vk) (hkb : Bytes key) (h200 : key.length ≤ 200) (h : Rd u (st_Chunk r) v) (hcb : WfV (st_Chunk r)) (ht : tot (st_Chunk r) ≤ 1048576) :
    Calls Try.prog 37 #[.int .i64 id, vk, v] u (DgR id key r u) := by
  have R0 := Blk.new u 27 #[.int .i64 0, .slice none 0 0]
  have b0 := bal (Below.refl u.heap.size u) (.cells #[.int .i64 0, .slice none 0 0] 27)
  obtain ⟨w0, hw0⟩ : ∃ w0, u.alloc (.cells #[.int .i64 0, .slice none 0 0] 27) = w0 := ⟨_, rfl⟩
  rw [hw0] at R0 b0
  have HK := hidH (fun (w : World) (hb : Below u.heap.size u w) => Rd.below hb _ hk)
  have HW := hidH hw0
  have HR := hidH R0
  have HB := hidH b0
  have HKB := hidH (And.intro hkb h200)
  have HCB := hidH (st_Chunk_bytes hcb)
  have HMT := hidH (mt_impl id r v w0 hw (Rd.below b0 _ h) hcb ht)
  obtain ⟨PK, ck, rfl⟩ := hk.bs_sh
  clear hw0 R0 b0 h hk hkb hcb ht hw h200
  by_cases hz : mtF id r = 0
  · rw [mtR_ok hz] at HMT
    have hd : dgL id key r = hmL key (txtL id r) := by rw [dgL, if_pos hz]
    have HT5 := hidH (mtF_zero hz).2.2
    have HTB := hidH (txtTo_bytes (mtF_zero hz).1.1 (by have := (mtF_zero hz).1.2; omega) (cmsF_ok (csF_zero (mtF_zero hz).2.1).2) HCB.out r.length)
    obtain ⟨L, hL⟩ : ∃ L, txtL id r = L := ⟨_, rfl⟩
    have e0 : txtTo id r r.length = L := hL
    rw [e0] at HTB
    rw [hL] at HMT HT5 hd
    have hM : hmM key L = hmL key L := by rw [hmM, if_pos ⟨HKB.out.2, by have := HT5.out; omega⟩]
    have hC : hmC key L = 0 := by rw [hmC, if_pos ⟨HKB.out.2, by have := HT5.out; omega⟩]
    have HIM := hidH (fun (A : Option Addr) (c : Nat) (w : World) (hb : Below u.heap.size u w) (hB : Bs w A L) => hmac_impl PK A key L ck c w (rdB (HK.out w hb)) hB HKB.out.1 HTB.out (by have := HKB.out.2; omega) (by have := HT5.out; omega))
    rw [hM, hC] at HIM
    unfold DgR
    rw [hd, hz]
    obtain ⟨D, hD⟩ : ∃ D, hmL key L = D := ⟨_, rfl⟩
    rw [hD] at HIM ⊢
    clear hL e0 hd hM hC hD hz
    go_enter Try.func37, Try.ntmps37
    go_wp2_with fail
    rw [HW.out]
    refine HMT.out.mono ?_
    rintro e w1 ⟨vs, rfl, O1, b1⟩
    obtain ⟨A1, c1, rfl⟩ := shape_BytesResult O1.rd
    have ba := bal (Below.refl w1.heap.size w1) (.cells #[.int .i64 0, .slice A1 L.length c1] 27)
    have KT := hidH (Blk.new w1 27 #[.int .i64 0, .slice A1 L.length c1])
    have HB1 := hidH (btr (btr HB.out b1) ba)
    have HR1 := hidH ((HR.out.below b1).below ba)
    have HO1 := hidH (rdB (RdA.hd (RdA.tl (O1.below ba).rd)))
    obtain ⟨y0, y1, yz⟩ := KT.out.two
    have hlt := KT.out.lt
    clear O1 b1 ba HMT
    go_wp2_with fail
    refine (HIM.out A1 c1 _ HB1.out HO1.out).mono ?_
    rintro e w2 ⟨A2, c2, rfl, ob2, b2, _, _⟩
    have HB2 := hidH (btr HB1.out b2)
    have R2 := HR1.out.below b2
    obtain ⟨x0, x1, xz⟩ := R2.two
    have f0 := R2.frozen 0
    have f1 := R2.frozen 1
    have HO2 := hidH (ob2.mono (B' := u.heap.size + 1) (by have := HR1.out.lt; omega))
    clear ob2 b2 R2 HIM y0 y1 yz
    go_wp2
    exact bodyPost_ret (v := .agg #[.int .i64 0, .slice A2 D.length c2]) (by simp [results, Try.results37, go_sem, x0, x1]) rfl ⟨A2, c2, rfl, ((HO2.out.setCell (p := ⟨u.heap.size, 0, none⟩) (Nat.lt_succ_self _) _).setCell (p := ⟨u.heap.size, 1, none⟩) (Nat.lt_succ_self _) _).bs, bst (bst HB2.out (Nat.le_refl _) _) (Nat.le_refl _) _⟩
  · rw [mtR_no hz] at HMT
    have hd : dgL id key r = [] := by rw [dgL, if_neg hz]
    unfold DgR
    rw [hd]
    obtain ⟨F, hF⟩ : ∃ F, mtF id r = F := ⟨_, rfl⟩
    rw [hF] at HMT hz ⊢
    have q : (F != 0) = true := by rw [bne_iff_ne]; exact hz
    clear hd hF hz
    go_enter Try.func37, Try.ntmps37
    go_wp2_with fail
    rw [HW.out]
    refine HMT.out.mono ?_
    rintro e w1 ⟨vs, rfl, O1, b1⟩
    obtain ⟨A1, c1, rfl⟩ := shape_BytesResult O1.rd
    have ba := bal (Below.refl w1.heap.size w1) (.cells #[.int .i64 F, .slice A1 0 c1] 27)
    have KT := hidH (Blk.new w1 27 #[.int .i64 F, .slice A1 0 c1])
    have HB1 := hidH (btr (btr HB.out b1) ba)
    have HR1 := hidH ((HR.out.below b1).below ba)
    obtain ⟨y0, y1, yz⟩ := KT.out.two
    have hlt := KT.out.lt
    obtain ⟨x0, x1, xz⟩ := HR1.out.two
    have f0 := HR1.out.frozen 0
    have f1 := HR1.out.frozen 1
    clear O1 b1 ba HMT
    go_wp2
    exact bodyPost_ret (v := .agg #[.int .i64 F, .slice A1 0 c1]) (by simp [results, Try.results37, go_sem, x0, x1]) rfl ⟨A1, c1, rfl, .inl rfl, bst (bst HB1.out (Nat.le_refl _) _) (Nat.le_refl _) _⟩
end Go.Proofs.Ytacdnednkglobaa
