/- errors.As that finds its type: the target holds the error's number. -/
import Derived.Test.YtacdnednkglobaaDoorAsE0
namespace Go.Proofs.YtacdnednkglobaaDoor
open Go.RowKit Go.Deep Go.Extern.Stop Go.Stop Go.Extern

set_option maxRecDepth 100000 in
set_option maxHeartbeats 8000000 in
theorem as_hit (c old : Int) (t : Nat) (w : World) (hg : w.cell? ⟨1, 0, none⟩ = some (.iface 187 (.agg #[.pointer (some ⟨2, 132, none⟩)]))) (ht0 : Blk w t 158 #[.int .i64 old]) (h1t : 1 < t) :
    Calls Tryd.prog 91 #[.iface 158 (.agg #[.int .i64 c]), .iface 163 (.pointer (some ⟨t, 0, none⟩))] w fun ev w' => ev = .returned (.bool true) ∧ Blk w' t 158 #[.int .i64 c] ∧ Win t (t + 1) w w' := by
  have h6 := @run_callFunc_extern Tryd.prog 102 _ (fun args => ReflectliteValue.unpack (args.getD 0 (.tuple #[]))) Tryd.func102 (by kernel_rfl) (by kernel_rfl) (by kernel_rfl) (by kernel_rfl)
  have h7 := @run_callFunc_extern Tryd.prog 103 _ (ReflectliteValue.methodAny (ReflectliteValue.valueError "reflectlite.Value.Type" 0) (fun t _ _ _ => ReflectliteType.toType t)) Tryd.func103 (by kernel_rfl) (by kernel_rfl) (by kernel_rfl) (by kernel_rfl)
  have h8 := @run_callFunc_extern Tryd.prog 104 _ (ReflectliteValue.method (ReflectliteValue.valueError "reflectlite.Value.IsNil" 0) ReflectliteValue.isNil) Tryd.func104 (by kernel_rfl) (by kernel_rfl) (by kernel_rfl) (by kernel_rfl)
  have h27 := @run_callFunc_extern Tryd.prog 131 _ (ReflectliteType.abiMethod fun t => do pure (.int .u8 (← Rtype.kind t))) Tryd.func131 (by kernel_rfl) (by kernel_rfl) (by kernel_rfl) (by kernel_rfl)
  have h37 := @run_callFunc_extern Tryd.prog 167 _ (ReflectliteType.method ReflectliteType.elem) Tryd.func167 (by kernel_rfl) (by kernel_rfl) (by kernel_rfl) (by kernel_rfl)
  have h38 := @run_callFunc_extern Tryd.prog 168 _ (ReflectliteType.relation "Implements" ReflectliteType.implements_) Tryd.func168 (by kernel_rfl) (by kernel_rfl) (by kernel_rfl) (by kernel_rfl)
  have h10 := @run_callFunc_extern Tryd.prog 111 _ ReflectliteType.typeOf Tryd.func111 (by kernel_rfl) (by kernel_rfl) (by kernel_rfl) (by kernel_rfl)
  have h35 := @run_callFunc_extern Tryd.prog 165 _ (ReflectliteType.relation "AssignableTo" ReflectliteType.assignableTo) Tryd.func165 (by kernel_rfl) (by kernel_rfl) (by kernel_rfl) (by kernel_rfl)
  have h11 := @run_callFunc_extern Tryd.prog 112 _ (ReflectliteValue.method (ReflectliteValue.valueError "reflectlite.Value.Elem" 0) ReflectliteValue.elem) Tryd.func112 (by kernel_rfl) (by kernel_rfl) (by kernel_rfl) (by kernel_rfl)
  have h12 := @run_callFunc_extern Tryd.prog 113 _ ReflectliteValue.set Tryd.func113 (by kernel_rfl) (by kernel_rfl) (by kernel_rfl) (by kernel_rfl)
  have tO := as_typeOfU
  have mA := as_mAssign
  have a25 := as_assignU
  have v25 := as_valueOfU
  have f6 := as_valueOfP
  have f7 := as_typeP
  have mK := as_mKind
  have mE := as_mElem
  have mI := as_mImpl
  have k27 := as_kindP
  have k25 := as_kindU
  have e27 := as_elemP
  have i25 := as_implU
  have n8 := as_isNilP ⟨w.heap.size, 0, none⟩ ⟨t, 0, none⟩ ((w.alloc (.cells #[.pointer (some ⟨t, 0, none⟩)] 163)).alloc (.cells #[.pointer (some ⟨2, 163, none⟩), .pointer (some ⟨w.heap.size, 0, none⟩), .int .u64 150] 173)) (by simp)
  have htl := ht0.lt
  have hlt : 1 < w.heap.size := by omega
  have hg2 : ((w.alloc (.cells #[.pointer (some ⟨t, 0, none⟩)] 163)).alloc (.cells #[.pointer (some ⟨2, 163, none⟩), .pointer (some ⟨w.heap.size, 0, none⟩), .int .u64 150] 173)).cell? ⟨1, 0, none⟩ = some (.iface 187 (.agg #[.pointer (some ⟨2, 132, none⟩)])) := by
    rw [World.cell?_alloc_lt _ _ ⟨1, 0, none⟩ (by simp; omega), World.cell?_alloc_lt _ _ ⟨1, 0, none⟩ hlt]; exact hg
  have el := as_elemVP ⟨w.heap.size, 0, none⟩ ⟨t, 0, none⟩ (((w.alloc (.cells #[.pointer (some ⟨t, 0, none⟩)] 163)).alloc (.cells #[.pointer (some ⟨2, 163, none⟩), .pointer (some ⟨w.heap.size, 0, none⟩), .int .u64 150] 173)).alloc (.cells #[.pointer (some ⟨2, 163, none⟩), .pointer (some ⟨w.heap.size, 0, none⟩), .int .u64 150] 173)) (by rw [World.cell?_alloc_lt _ _ ⟨w.heap.size, 0, none⟩ (by simp; omega)]; simp)
  have k0 := ((((ht0.alloc (.cells #[.pointer (some ⟨t, 0, none⟩)] 163)).alloc (.cells #[.pointer (some ⟨2, 163, none⟩), .pointer (some ⟨w.heap.size, 0, none⟩), .int .u64 150] 173)).alloc (.cells #[.pointer (some ⟨2, 163, none⟩), .pointer (some ⟨w.heap.size, 0, none⟩), .int .u64 150] 173)).alloc (.cells #[.int .i64 c] 158))
  have st := as_setU t (w.heap.size + 1 + 1 + 1) c (.int .i64 old) ((((w.alloc (.cells #[.pointer (some ⟨t, 0, none⟩)] 163)).alloc (.cells #[.pointer (some ⟨2, 163, none⟩), .pointer (some ⟨w.heap.size, 0, none⟩), .int .u64 150] 173)).alloc (.cells #[.pointer (some ⟨2, 163, none⟩), .pointer (some ⟨w.heap.size, 0, none⟩), .int .u64 150] 173)).alloc (.cells #[.int .i64 c] 158))
    (by rw [World.cell?_alloc_at _ _ _ _ (by simp)]; rfl)
    (by rw [k0.cell]; rfl)
    (k0.frozen 0)
  have HB := hidH (bal (bal (bal (bal (Below.refl w.heap.size w) (.cells #[.pointer (some ⟨t, 0, none⟩)] 163)) (.cells #[.pointer (some ⟨2, 163, none⟩), .pointer (some ⟨w.heap.size, 0, none⟩), .int .u64 150] 173)) (.cells #[.pointer (some ⟨2, 163, none⟩), .pointer (some ⟨w.heap.size, 0, none⟩), .int .u64 150] 173)) (.cells #[.int .i64 c] 158))
  have HK := hidH k0
  clear k0 ht0
  go_enter Tryd.func91, Tryd.ntmps91
  go_wp2
  refine wp_loop_rounds 1 ?_
  rw [rounds_succ]
  go_wp2
  go_ret
  exact ⟨rfl, HK.out.put 0 (.int .i64 c), (Win.of_below HB.out).trans (set_win _ t 0 (.int .i64 c))⟩
end Go.Proofs.YtacdnednkglobaaDoor
