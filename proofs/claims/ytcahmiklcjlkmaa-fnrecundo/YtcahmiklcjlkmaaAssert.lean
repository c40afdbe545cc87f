/-
  Type assertions on entries: which kind an entry is of. No conditions.
-/
import Derived.Test.YtcahmiklcjlkmaaRecs
namespace Go.Proofs.Ytcahmiklcjlkmaa.Base
open Go.RowKit

theorem ta_11 (v : Value) (w : World) : (Instr.typeAssert (.iface 93 v) 56 93 true).run Try.prog w = .ok (.tuple #[v, .bool true]) w := by kernel_rfl
theorem ta_21 (v : Value) (w : World) : (Instr.typeAssert (.iface 95 v) 56 93 true).run Try.prog w = .ok (.tuple #[.agg #[.int .i64 0, .int .i64 0, .int .i64 0, .int .i64 0, .int .i64 0, .int .i64 0], .bool false]) w := by kernel_rfl
theorem ta_31 (v : Value) (w : World) : (Instr.typeAssert (.iface 103 v) 56 93 true).run Try.prog w = .ok (.tuple #[.agg #[.int .i64 0, .int .i64 0, .int .i64 0, .int .i64 0, .int .i64 0, .int .i64 0], .bool false]) w := by kernel_rfl
theorem ta_41 (v : Value) (w : World) : (Instr.typeAssert (.iface 105 v) 56 93 true).run Try.prog w = .ok (.tuple #[.agg #[.int .i64 0, .int .i64 0, .int .i64 0, .int .i64 0, .int .i64 0, .int .i64 0], .bool false]) w := by kernel_rfl
theorem ta_51 (v : Value) (w : World) : (Instr.typeAssert (.iface 106 v) 56 93 true).run Try.prog w = .ok (.tuple #[.agg #[.int .i64 0, .int .i64 0, .int .i64 0, .int .i64 0, .int .i64 0, .int .i64 0], .bool false]) w := by kernel_rfl
theorem ta_61 (v : Value) (w : World) : (Instr.typeAssert (.iface 65 v) 56 93 true).run Try.prog w = .ok (.tuple #[.agg #[.int .i64 0, .int .i64 0, .int .i64 0, .int .i64 0, .int .i64 0, .int .i64 0], .bool false]) w := by kernel_rfl
theorem ta_12 (v : Value) (w : World) : (Instr.typeAssert (.iface 93 v) 56 95 true).run Try.prog w = .ok (.tuple #[.agg #[.int .i64 0, .int .i64 0, .int .i64 0, .int .i64 0, .int .i64 0], .bool false]) w := by kernel_rfl
theorem ta_22 (v : Value) (w : World) : (Instr.typeAssert (.iface 95 v) 56 95 true).run Try.prog w = .ok (.tuple #[v, .bool true]) w := by kernel_rfl
theorem ta_32 (v : Value) (w : World) : (Instr.typeAssert (.iface 103 v) 56 95 true).run Try.prog w = .ok (.tuple #[.agg #[.int .i64 0, .int .i64 0, .int .i64 0, .int .i64 0, .int .i64 0], .bool false]) w := by kernel_rfl
theorem ta_42 (v : Value) (w : World) : (Instr.typeAssert (.iface 105 v) 56 95 true).run Try.prog w = .ok (.tuple #[.agg #[.int .i64 0, .int .i64 0, .int .i64 0, .int .i64 0, .int .i64 0], .bool false]) w := by kernel_rfl
theorem ta_52 (v : Value) (w : World) : (Instr.typeAssert (.iface 106 v) 56 95 true).run Try.prog w = .ok (.tuple #[.agg #[.int .i64 0, .int .i64 0, .int .i64 0, .int .i64 0, .int .i64 0], .bool false]) w := by kernel_rfl
theorem ta_62 (v : Value) (w : World) : (Instr.typeAssert (.iface 65 v) 56 95 true).run Try.prog w = .ok (.tuple #[.agg #[.int .i64 0, .int .i64 0, .int .i64 0, .int .i64 0, .int .i64 0], .bool false]) w := by kernel_rfl
theorem ta_16 (v : Value) (w : World) : (Instr.typeAssert (.iface 93 v) 56 65 true).run Try.prog w = .ok (.tuple #[.agg #[.int .i64 0, .int .i64 0, .int .i64 0, .int .i64 0, .int .i64 0, .int .i64 0], .bool false]) w := by kernel_rfl
theorem ta_26 (v : Value) (w : World) : (Instr.typeAssert (.iface 95 v) 56 65 true).run Try.prog w = .ok (.tuple #[.agg #[.int .i64 0, .int .i64 0, .int .i64 0, .int .i64 0, .int .i64 0, .int .i64 0], .bool false]) w := by kernel_rfl
theorem ta_36 (v : Value) (w : World) : (Instr.typeAssert (.iface 103 v) 56 65 true).run Try.prog w = .ok (.tuple #[.agg #[.int .i64 0, .int .i64 0, .int .i64 0, .int .i64 0, .int .i64 0, .int .i64 0], .bool false]) w := by kernel_rfl
theorem ta_46 (v : Value) (w : World) : (Instr.typeAssert (.iface 105 v) 56 65 true).run Try.prog w = .ok (.tuple #[.agg #[.int .i64 0, .int .i64 0, .int .i64 0, .int .i64 0, .int .i64 0, .int .i64 0], .bool false]) w := by kernel_rfl
theorem ta_56 (v : Value) (w : World) : (Instr.typeAssert (.iface 106 v) 56 65 true).run Try.prog w = .ok (.tuple #[.agg #[.int .i64 0, .int .i64 0, .int .i64 0, .int .i64 0, .int .i64 0, .int .i64 0], .bool false]) w := by kernel_rfl
theorem ta_66 (v : Value) (w : World) : (Instr.typeAssert (.iface 65 v) 56 65 true).run Try.prog w = .ok (.tuple #[v, .bool true]) w := by kernel_rfl

end Go.Proofs.Ytcahmiklcjlkmaa.Base
