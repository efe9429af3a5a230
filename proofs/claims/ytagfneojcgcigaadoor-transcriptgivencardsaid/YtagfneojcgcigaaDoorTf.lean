import Derived.Test.YtagfneojcgcigaaDoorTb
namespace Go.Proofs.YtagfneojcgcigaaDoor.Tr
open Go.RowKit
theorem byte_at8 (n k : Nat) : (n : Int) / 2 ^ (8 * k) % 256 = ((UInt8.ofNat (n / 2 ^ (8 * k))).toNat : Int) := by
  rw [UInt8.toNat_ofNat', Int.natCast_emod, Int.natCast_ediv, Int.natCast_pow]
  rfl
theorem by_new (w : World) (y : UInt8) : By (w.alloc (.cells (cb [y]).toArray 5)) (some ⟨w.heap.size, 0, none⟩) 1 [y] :=
  ⟨fun h => (by cases h), fun a ha => by obtain rfl := Option.some.inj ha; exact cells_new w (cb [y]) _⟩
end Go.Proofs.YtagfneojcgcigaaDoor.Tr
