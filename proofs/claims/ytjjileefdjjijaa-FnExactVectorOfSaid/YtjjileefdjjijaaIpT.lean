/- What a type assertion gives of each content. -/
import Derived.Test.YtjjileefdjjijaaChS
namespace Go.Proofs.Ytjjileefdjjijaa
open Go.RowKit Go.Deep

theorem taND (w : World) : (Instr.typeAssert .nilIface 110 120 true).run Try.prog w = .ok (.tuple #[.agg #[.int .i64 0, .int .i64 0, .int .i64 0, .bool false, .bool false, .bool false, .slice none 0 0], .bool false]) w := by kernel_rfl
theorem taDD (v : Value) (w : World) : (Instr.typeAssert (.iface 120 v) 110 120 true).run Try.prog w = .ok (.tuple #[v, .bool true]) w := by kernel_rfl
theorem taSD (v : Value) (w : World) : (Instr.typeAssert (.iface 123 v) 110 120 true).run Try.prog w = .ok (.tuple #[.agg #[.int .i64 0, .int .i64 0, .int .i64 0, .bool false, .bool false, .bool false, .slice none 0 0], .bool false]) w := by kernel_rfl
theorem taGD (v : Value) (w : World) : (Instr.typeAssert (.iface 98 v) 110 120 true).run Try.prog w = .ok (.tuple #[.agg #[.int .i64 0, .int .i64 0, .int .i64 0, .bool false, .bool false, .bool false, .slice none 0 0], .bool false]) w := by kernel_rfl
theorem taQD (v : Value) (w : World) : (Instr.typeAssert (.iface 126 v) 110 120 true).run Try.prog w = .ok (.tuple #[.agg #[.int .i64 0, .int .i64 0, .int .i64 0, .bool false, .bool false, .bool false, .slice none 0 0], .bool false]) w := by kernel_rfl
theorem taWD (v : Value) (w : World) : (Instr.typeAssert (.iface 128 v) 110 120 true).run Try.prog w = .ok (.tuple #[.agg #[.int .i64 0, .int .i64 0, .int .i64 0, .bool false, .bool false, .bool false, .slice none 0 0], .bool false]) w := by kernel_rfl
theorem taNS (w : World) : (Instr.typeAssert .nilIface 110 123 true).run Try.prog w = .ok (.tuple #[.agg #[.int .i64 0, .slice none 0 0], .bool false]) w := by kernel_rfl
theorem taDS (v : Value) (w : World) : (Instr.typeAssert (.iface 120 v) 110 123 true).run Try.prog w = .ok (.tuple #[.agg #[.int .i64 0, .slice none 0 0], .bool false]) w := by kernel_rfl
theorem taSS (v : Value) (w : World) : (Instr.typeAssert (.iface 123 v) 110 123 true).run Try.prog w = .ok (.tuple #[v, .bool true]) w := by kernel_rfl
theorem taGS (v : Value) (w : World) : (Instr.typeAssert (.iface 98 v) 110 123 true).run Try.prog w = .ok (.tuple #[.agg #[.int .i64 0, .slice none 0 0], .bool false]) w := by kernel_rfl
theorem taQS (v : Value) (w : World) : (Instr.typeAssert (.iface 126 v) 110 123 true).run Try.prog w = .ok (.tuple #[.agg #[.int .i64 0, .slice none 0 0], .bool false]) w := by kernel_rfl
theorem taWS (v : Value) (w : World) : (Instr.typeAssert (.iface 128 v) 110 123 true).run Try.prog w = .ok (.tuple #[.agg #[.int .i64 0, .slice none 0 0], .bool false]) w := by kernel_rfl
theorem taNG (w : World) : (Instr.typeAssert .nilIface 110 98 true).run Try.prog w = .ok (.tuple #[.agg #[.int .i64 0, .int .i64 0, .slice none 0 0, .slice none 0 0, .slice none 0 0, .int .i64 0], .bool false]) w := by kernel_rfl
theorem taDG (v : Value) (w : World) : (Instr.typeAssert (.iface 120 v) 110 98 true).run Try.prog w = .ok (.tuple #[.agg #[.int .i64 0, .int .i64 0, .slice none 0 0, .slice none 0 0, .slice none 0 0, .int .i64 0], .bool false]) w := by kernel_rfl
theorem taSG (v : Value) (w : World) : (Instr.typeAssert (.iface 123 v) 110 98 true).run Try.prog w = .ok (.tuple #[.agg #[.int .i64 0, .int .i64 0, .slice none 0 0, .slice none 0 0, .slice none 0 0, .int .i64 0], .bool false]) w := by kernel_rfl
theorem taGG (v : Value) (w : World) : (Instr.typeAssert (.iface 98 v) 110 98 true).run Try.prog w = .ok (.tuple #[v, .bool true]) w := by kernel_rfl
theorem taQG (v : Value) (w : World) : (Instr.typeAssert (.iface 126 v) 110 98 true).run Try.prog w = .ok (.tuple #[.agg #[.int .i64 0, .int .i64 0, .slice none 0 0, .slice none 0 0, .slice none 0 0, .int .i64 0], .bool false]) w := by kernel_rfl
theorem taWG (v : Value) (w : World) : (Instr.typeAssert (.iface 128 v) 110 98 true).run Try.prog w = .ok (.tuple #[.agg #[.int .i64 0, .int .i64 0, .slice none 0 0, .slice none 0 0, .slice none 0 0, .int .i64 0], .bool false]) w := by kernel_rfl
theorem taNQ (w : World) : (Instr.typeAssert .nilIface 110 126 true).run Try.prog w = .ok (.tuple #[.agg #[.int .i64 0, .slice none 0 0], .bool false]) w := by kernel_rfl
theorem taDQ (v : Value) (w : World) : (Instr.typeAssert (.iface 120 v) 110 126 true).run Try.prog w = .ok (.tuple #[.agg #[.int .i64 0, .slice none 0 0], .bool false]) w := by kernel_rfl
theorem taSQ (v : Value) (w : World) : (Instr.typeAssert (.iface 123 v) 110 126 true).run Try.prog w = .ok (.tuple #[.agg #[.int .i64 0, .slice none 0 0], .bool false]) w := by kernel_rfl
theorem taGQ (v : Value) (w : World) : (Instr.typeAssert (.iface 98 v) 110 126 true).run Try.prog w = .ok (.tuple #[.agg #[.int .i64 0, .slice none 0 0], .bool false]) w := by kernel_rfl
theorem taQQ (v : Value) (w : World) : (Instr.typeAssert (.iface 126 v) 110 126 true).run Try.prog w = .ok (.tuple #[v, .bool true]) w := by kernel_rfl
theorem taWQ (v : Value) (w : World) : (Instr.typeAssert (.iface 128 v) 110 126 true).run Try.prog w = .ok (.tuple #[.agg #[.int .i64 0, .slice none 0 0], .bool false]) w := by kernel_rfl
theorem taNW (w : World) : (Instr.typeAssert .nilIface 110 128 true).run Try.prog w = .ok (.tuple #[.agg #[.int .i64 0, .slice none 0 0], .bool false]) w := by kernel_rfl
theorem taDW (v : Value) (w : World) : (Instr.typeAssert (.iface 120 v) 110 128 true).run Try.prog w = .ok (.tuple #[.agg #[.int .i64 0, .slice none 0 0], .bool false]) w := by kernel_rfl
theorem taSW (v : Value) (w : World) : (Instr.typeAssert (.iface 123 v) 110 128 true).run Try.prog w = .ok (.tuple #[.agg #[.int .i64 0, .slice none 0 0], .bool false]) w := by kernel_rfl
theorem taGW (v : Value) (w : World) : (Instr.typeAssert (.iface 98 v) 110 128 true).run Try.prog w = .ok (.tuple #[.agg #[.int .i64 0, .slice none 0 0], .bool false]) w := by kernel_rfl
theorem taQW (v : Value) (w : World) : (Instr.typeAssert (.iface 126 v) 110 128 true).run Try.prog w = .ok (.tuple #[.agg #[.int .i64 0, .slice none 0 0], .bool false]) w := by kernel_rfl
theorem taWW (v : Value) (w : World) : (Instr.typeAssert (.iface 128 v) 110 128 true).run Try.prog w = .ok (.tuple #[v, .bool true]) w := by kernel_rfl
end Go.Proofs.Ytjjileefdjjijaa
