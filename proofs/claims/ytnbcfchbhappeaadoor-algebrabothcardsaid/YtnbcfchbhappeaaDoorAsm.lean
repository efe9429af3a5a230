import Derived.Test.YtnbcfchbhappeaaDoorAsv
import Derived.KernelRfl
namespace Go.Proofs.YtnbcfchbhappeaaDoor.Al
open Go.RowKit
theorem mt_Add (n : Int) (w : World) : (method 207 51 (.agg #[.int .i64 n]) "Add").run Tryd.prog w = .ok (82, .agg #[.int .i64 n]) w := by kernel_rfl
theorem mt_Sub (n : Int) (w : World) : (method 207 51 (.agg #[.int .i64 n]) "Sub").run Tryd.prog w = .ok (87, .agg #[.int .i64 n]) w := by kernel_rfl
theorem mt_Mul (n : Int) (w : World) : (method 207 51 (.agg #[.int .i64 n]) "Mul").run Tryd.prog w = .ok (85, .agg #[.int .i64 n]) w := by kernel_rfl
theorem mt_One (n : Int) (w : World) : (method 207 51 (.agg #[.int .i64 n]) "One").run Tryd.prog w = .ok (86, .agg #[.int .i64 n]) w := by kernel_rfl
theorem mt_IsZero (n : Int) (w : World) : (method 207 51 (.agg #[.int .i64 n]) "IsZero").run Tryd.prog w = .ok (84, .agg #[.int .i64 n]) w := by kernel_rfl
theorem mt_Invert (n : Int) (w : World) : (method 207 51 (.agg #[.int .i64 n]) "Invert").run Tryd.prog w = .ok (83, .agg #[.int .i64 n]) w := by kernel_rfl
end Go.Proofs.YtnbcfchbhappeaaDoor.Al
