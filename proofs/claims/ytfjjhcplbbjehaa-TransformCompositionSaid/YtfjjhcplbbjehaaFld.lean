/- What a field of a struct value is, for each struct type and field that the program's code asks (one law each, by the kernel). -/
import Derived.Test.YtfjjhcplbbjehaaProg
import Derived.WalkKit
set_option linter.unusedVariables false
namespace Go.Proofs.Ytfjjhcplbbjehaa

@[go_sem] theorem fld_23_0 (c0 c1 : Value) (w : World) : (Instr.field 23 (.agg #[c0, c1]) 0).run Try.prog w = .ok (c0) w := by kernel_rfl
@[go_sem] theorem fld_25_0 (c0 c1 c2 : Value) (w : World) : (Instr.field 25 (.agg #[c0, c1, c2]) 0).run Try.prog w = .ok (.agg #[c0, c1]) w := by kernel_rfl
@[go_sem] theorem fld_25_1 (c0 c1 c2 : Value) (w : World) : (Instr.field 25 (.agg #[c0, c1, c2]) 1).run Try.prog w = .ok (c2) w := by kernel_rfl

end Go.Proofs.Ytfjjhcplbbjehaa
