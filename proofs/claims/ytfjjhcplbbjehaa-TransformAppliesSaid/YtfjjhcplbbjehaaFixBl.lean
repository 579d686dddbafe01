/- The contracts of chapter 1, of the program and of the reference, in the form that the later chapters use: nothing below the heap's old size has turned. No conditions. -/
import Derived.Test.YtfjjhcplbbjehaaFixD
import Derived.Test.YtfjjhcplbbjehaaFixE
import Derived.Test.YtfjjhcplbbjehaaFixF
import Derived.Test.YtfjjhcplbbjehaaReg
import Derived.Test.YtfjjhcplbbjehaaFld
set_option linter.unusedVariables false
namespace Go.Proofs.Ytfjjhcplbbjehaa
open Go.RowKit Fx

theorem bl_same {w w' : World} (h : w = w') : Below w.heap.size w w' := h ▸ Below.refl _ _
theorem bl_dr {w w' : World} (h : Dr w w') : Below w.heap.size w w' := by
  obtain ⟨m, rfl⟩ := h; rw [drewN_gw]; exact below_gw _ _
theorem bl_of_same {f : FuncId} {args : Array Value} {w : World} {v : Value} {P : Program} (h : Calls P f args w fun e w' => e = .returned v ∧ w = w') : Calls P f args w fun e w' => e = .returned v ∧ Below w.heap.size w w' :=
  h.mono fun _ _ ⟨he, hw⟩ => ⟨he, bl_same hw⟩
theorem bl_of_dr {f : FuncId} {args : Array Value} {w : World} {v : Value} {P : Program} (h : Calls P f args w fun e w' => e = .returned v ∧ Dr w w') : Calls P f args w fun e w' => e = .returned v ∧ Below w.heap.size w w' :=
  h.mono fun _ _ ⟨he, hw⟩ => ⟨he, bl_dr hw⟩
theorem bgw {B : Nat} {a w : World} (h : Below B a w) (hB : B ≤ w.heap.size) (p : Gw) : Below B a (gw w p) := h.trans ((below_gw w p).mono hB)

theorem sat_b (a : Int) (w : World) : Calls Try.prog 67 #[.int .i64 a] w fun e w' => e = .returned (.int .i64 (sat a)) ∧ Below w.heap.size w w' := bl_of_same (sat_p a w)

theorem add_b (a b : Int) (w : World) : Calls Try.prog 46 #[.int .i64 a, .int .i64 b] w fun e w' => e = .returned (.int .i64 (add a b)) ∧ Below w.heap.size w w' := bl_of_same (add_p a b w)

theorem sub_b (a b : Int) (w : World) : Calls Try.prog 47 #[.int .i64 a, .int .i64 b] w fun e w' => e = .returned (.int .i64 (sub a b)) ∧ Below w.heap.size w w' := bl_of_same (sub_p a b w)

theorem rd_b (n d : Int) (w : World) : Calls Try.prog 68 #[.int .i64 n, .int .i64 d] w fun e w' => e = .returned (.int .i64 (rdiv n d)) ∧ Below w.heap.size w w' := bl_of_dr (rd_p n d w)

theorem mul_b (a b : Int) (w : World) : Calls Try.prog 66 #[.int .i64 a, .int .i64 b] w fun e w' => e = .returned (.int .i64 (mul a b)) ∧ Below w.heap.size w w' := bl_of_dr (mul_p a b w)

theorem div_b (a b : Int) (w : World) : Calls Try.prog 54 #[.int .i64 a, .int .i64 b] w fun e w' => e = .returned (.int .i64 (quo a b)) ∧ Below w.heap.size w w' := bl_of_dr (div_p a b w)

theorem lerp_b (a b t : Int) (w : World) : Calls Try.prog 64 #[.int .i64 a, .int .i64 b, .int .i64 t] w fun e w' => e = .returned (.int .i64 (lerp a b t)) ∧ Below w.heap.size w w' := bl_of_dr (lerp_p a b t w)

theorem isq_b (n : Int) (w : World) : Calls Try.prog 53 #[.int .i64 n] w fun e w' => e = .returned (.int .i64 (isq n)) ∧ Below w.heap.size w w' := bl_of_dr (isq_p n w)

theorem rsat_b (a : Int) (w : World) : Calls Try.prog 56 #[.int .i64 a] w fun e w' => e = .returned (.int .i64 (sat a)) ∧ Below w.heap.size w w' := bl_of_same (rsat_p a w)

theorem radd_b (a b : Int) (w : World) : Calls Try.prog 55 #[.int .i64 a, .int .i64 b] w fun e w' => e = .returned (.int .i64 (add a b)) ∧ Below w.heap.size w w' := bl_of_same (radd_p a b w)

theorem rsub_b (a b : Int) (w : World) : Calls Try.prog 63 #[.int .i64 a, .int .i64 b] w fun e w' => e = .returned (.int .i64 (sub a b)) ∧ Below w.heap.size w w' := bl_of_same (rsub_p a b w)

theorem rrd_b (n d : Int) (w : World) : Calls Try.prog 58 #[.int .i64 n, .int .i64 d] w fun e w' => e = .returned (.int .i64 (rdiv n d)) ∧ Below w.heap.size w w' := bl_of_dr (rrd_p n d w)

theorem rmul_b (a b : Int) (w : World) : Calls Try.prog 41 #[.int .i64 a, .int .i64 b] w fun e w' => e = .returned (.int .i64 (mul a b)) ∧ Below w.heap.size w w' := bl_of_dr (rmul_p a b w)

theorem rdiv_b (a b : Int) (w : World) : Calls Try.prog 62 #[.int .i64 a, .int .i64 b] w fun e w' => e = .returned (.int .i64 (quo a b)) ∧ Below w.heap.size w w' := bl_of_dr (rdiv_p a b w)

theorem rlerp_b (a b t : Int) (w : World) : Calls Try.prog 65 #[.int .i64 a, .int .i64 b, .int .i64 t] w fun e w' => e = .returned (.int .i64 (lerp a b t)) ∧ Below w.heap.size w w' := bl_of_dr (rlerp_p a b t w)

theorem risq_b (n : Int) (w : World) : Calls Try.prog 61 #[.int .i64 n] w fun e w' => e = .returned (.int .i64 (isq n)) ∧ Below w.heap.size w w' := bl_of_dr (risq_p n w)

end Go.Proofs.Ytfjjhcplbbjehaa
