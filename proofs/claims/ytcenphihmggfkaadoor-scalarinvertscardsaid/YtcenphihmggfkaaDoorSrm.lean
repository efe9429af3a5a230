import Derived.Test.YtcenphihmggfkaaDoorSmu
namespace Go.Proofs.YtcenphihmggfkaaDoor
open Go.RowKit

theorem St.aside1 {w0 : World} {L : List (Nat × E4)} {R : List Nat} {w1 : World} {b : Nat} (h : St w0 L R w1) (hn : ∀ p ∈ L, b ≠ p.1) (h0 : w0.heap.size ≤ b) (k : Nat) (v : Value) : St w0 L R (w1.setCell ⟨b, k, none⟩ v) :=
  ⟨fun p hp => (h.live p hp).far1 (hn p hp) _ _, fun c hc => ⟨(h.wrt c hc).1.put _ _ _, by simpa using (h.wrt c hc).2⟩, h.bel.setCell h0 _⟩
theorem Rw.new (w : World) (n : Nat) (f : Nat → Int) (xs : Array Value) (t : TypeId) (h : ∀ j, j < n → xs[j]? = some (.int .u64 (f j))) : Rw (w.alloc (.cells xs t)) w.heap.size n f := by
  refine ⟨fun j hj => ?_, fun j hj => ?_⟩
  · have := h j hj
    go_simp
  · go_simp
theorem and16m (u : Int) (h0 : 0 ≤ u) (h1 : u ≤ 18446744073709551615) : bits .and .u64 u 65535 = u % 65536 := by
  rw [u64_and u 65535 h0 (by omega) (by omega) (by omega)]
  have : u.toNat &&& (65535 : Int).toNat = u.toNat % 65536 := Nat.and_two_pow_sub_one_eq_mod u.toNat 16
  rw [this]; omega
structure MuW (w0 : World) (bx bb bp : Nat) (x y P : Nat → Int) (w : World) : Prop where
  st : St w0 [(w0.heap.size + 1 + 1, zero4)] [w0.heap.size + 1 + 1] w
  xr : Rw w bx 8 x
  yr : Rw w bb 8 y
  pr : Rw w bp 16 P
  n1 : bp ≠ bx
  n2 : bp ≠ bb
  n3 : w0.heap.size + 1 + 1 < bp
theorem MuW.drew {w0 : World} {bx bb bp : Nat} {x y P : Nat → Int} {w : World} (h : MuW w0 bx bb bp x y P w) : MuW w0 bx bb bp x y P w.drew :=
  ⟨h.st.drew, h.xr.drew (by omega), h.yr.drew (by omega), h.pr.drew (by omega), h.n1, h.n2, h.n3⟩
theorem MuW.put {w0 : World} {bx bb bp : Nat} {x y P : Nat → Int} {w : World} (h : MuW w0 bx bb bp x y P w) (k : Nat) (hk : k < 16) (v : Int) : MuW w0 bx bb bp x y (upd P k v) (w.setCell ⟨bp, k, none⟩ (.int .u64 v)) := by
  have n3 := h.n3
  exact ⟨h.st.aside1 (by intro p hp; rw [List.mem_singleton] at hp; subst hp; show bp ≠ w0.heap.size + 1 + 1; omega) (by omega) k _, h.xr.far h.n1 k _, h.yr.far h.n2 k _, h.pr.at k hk v, h.n1, h.n2, h.n3⟩

end Go.Proofs.YtcenphihmggfkaaDoor
