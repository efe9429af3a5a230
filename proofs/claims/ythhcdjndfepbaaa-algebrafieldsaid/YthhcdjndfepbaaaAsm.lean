import Derived.Test.YthhcdjndfepbaaaAsv
import Derived.KernelRfl
namespace Go.Proofs.Ythhcdjndfepbaaa
open Go.RowKit
theorem mt_Add (n : Int) (w : World) : (method 186 27 (.agg #[.int .i64 n]) "Add").run Try.prog w = .ok (55, .agg #[.int .i64 n]) w := by kernel_rfl
theorem mt_Sub (n : Int) (w : World) : (method 186 27 (.agg #[.int .i64 n]) "Sub").run Try.prog w = .ok (60, .agg #[.int .i64 n]) w := by kernel_rfl
theorem mt_Mul (n : Int) (w : World) : (method 186 27 (.agg #[.int .i64 n]) "Mul").run Try.prog w = .ok (58, .agg #[.int .i64 n]) w := by kernel_rfl
theorem mt_One (n : Int) (w : World) : (method 186 27 (.agg #[.int .i64 n]) "One").run Try.prog w = .ok (59, .agg #[.int .i64 n]) w := by kernel_rfl
theorem mt_IsZero (n : Int) (w : World) : (method 186 27 (.agg #[.int .i64 n]) "IsZero").run Try.prog w = .ok (57, .agg #[.int .i64 n]) w := by kernel_rfl
theorem mt_Invert (n : Int) (w : World) : (method 186 27 (.agg #[.int .i64 n]) "Invert").run Try.prog w = .ok (56, .agg #[.int .i64 n]) w := by kernel_rfl
end Go.Proofs.Ythhcdjndfepbaaa
