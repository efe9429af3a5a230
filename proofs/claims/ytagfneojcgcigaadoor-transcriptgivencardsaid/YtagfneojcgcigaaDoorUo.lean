import Derived.Test.YtagfneojcgcigaaDoorUn
namespace Go.Proofs.YtagfneojcgcigaaDoor.Tr
open Go.RowKit
theorem requalT (a b : E4) (w : World) : (Op.equalIn 10000 43 a.v b.v).run Tryd.prog w = .ok (a.same b) w := by
  have hi : Tryd.prog.info? 25 = some (Tryd.prog.info? 25).get! := by kernel_rfl
  have hc : Tryd.prog.cellsOf 25 = 1 := by kernel_rfl
  unfold E4.v
  rw [run_equalIn_array w 9999 _ _ (by kernel_rfl : Tryd.prog.underlying 43 = some (.array 4 25)) hi, hc]
  rw [eqItems_ints w (k := .u64) 9998 (by kernel_rfl) (by kernel_rfl) _ _ (fun i => [a.x0, a.x1, a.x2, a.x3].getD i 0) (fun i => [b.x0, b.x1, b.x2, b.x3].getD i 0)]
  · rw [show List.range 4 = [0, 1, 2, 3] from rfl]
    simp only [List.all_cons, List.all_nil, Bool.and_true]
    rfl
  · intro i hi
    have : i < 4 := List.mem_range.1 hi
    match i, this with
    | 0, _ => exact ⟨rfl, rfl⟩
    | 1, _ => exact ⟨rfl, rfl⟩
    | 2, _ => exact ⟨rfl, rfl⟩
    | 3, _ => exact ⟨rfl, rfl⟩
set_option maxRecDepth 100000 in
theorem num_any (n : Int) (w : World) : Calls Tryd.prog 12 #[.int .i64 n] w fun e w' => e = .returned (.int .i64 n) ∧ Below w.heap.size w w' := by
  go_enter Tryd.func12, Tryd.ntmps12
  go_wp2_with fail
  refine bodyPost_ret (v := .int .i64 n) (by simp [results, Tryd.results12, go_sem]) rfl ⟨rfl, Below.refl _ _⟩
theorem info32 : (Tryd.prog.info? 32).map (fun i => (i.zero, i.size, i.bytes)) = some (some (.agg #[.int .i64 0, .int .i64 0, .string .empty, .slice none 0 0]), 4, 56) := by kernel_rfl
theorem Ls.zero {w : World} {base s : Nat} {PL : Option Addr} {d : Nat} {g g' : Nat → E4} {vH vW : Value} {es : List (En × Em)} {rs : List Oq} (h : Ls w base s PL d 0 g vH vW es rs) : Ls w base s PL d 0 g' vH vW es rs :=
  ⟨h.x, h.md, ⟨0, 0, fun h => absurd h (by omega), fun h => absurd h (by omega)⟩, h.h, h.v, h.f1, h.f2, h.en, h.sl, h.bz⟩
/-- behind a Draw or an Absorb the list of calls is as it was -/
theorem Ls.vW {w w' : World} {base s : Nat} {PL : Option Addr} {d m : Nat} {g : Nat → E4} {vH vW : Value} {es : List (En × Em)} {rs : List Oq} (h : Ls w base s PL d m g vH vW es rs) (ht : Bt (fun k => k = s ∨ vH.ownBlock = some k) w w') {w2 : World} (hk : ∀ k, k < w.heap.size → w2.heap[k]? = w'.heap[k]?) : w2.ownsRow base 32 4 vW rs.length (opc rs) := by
  refine own_blk h.v (fun k e => ?_)
  have hl := h.v.lt k e
  refine (hk k hl.2).trans (ht.block k hl.2 (fun e2 => ?_))
  have := h.sl
  rcases e2 with e2 | e2
  · omega
  · rcases h.f1 with h1 | h1
    · rw [h1] at e; cases e
    · exact h1 (e.trans e2.symm)
theorem by_move {w w' : World} {b c : Nat} {bs : List UInt8} (h : By w (some ⟨b, 0, none⟩) c bs) (e : w'.heap[b]? = w.heap[b]?) : By w' (some ⟨b, 0, none⟩) c bs := h.blk e
theorem by_lt {w : World} {b c : Nat} {bs : List UInt8} (h : By w (some ⟨b, 0, none⟩) c bs) (hn : 0 < bs.length) : b < w.heap.size := by
  have := h.lie ⟨b, 0, none⟩ rfl 0 _ (cb_at bs 0 hn)
  have := World.block_lt_of_cell? w _ this
  rwa [show ((⟨b, 0, none⟩ : Addr).add 0).block = b by unfold Addr.add; split <;> rfl] at this
end Go.Proofs.YtagfneojcgcigaaDoor.Tr
