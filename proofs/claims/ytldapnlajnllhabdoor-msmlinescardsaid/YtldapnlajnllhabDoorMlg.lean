import Derived.Test.YtldapnlajnllhabDoorMld
namespace Go.Proofs.YtldapnlajnllhabDoor
open Go.RowKit
theorem results_pairM {fn : Func} {p q : Tmp} {ty : TypeId} (h : fn.results = #[.cell p ty, .tmp q]) (tmps : Array Value) (P : Program) (w : World) (a : Addr) (v u : Value) (ha : tmps.getD p undef = .pointer (some a)) (hu : tmps.getD q undef = u) (hl : (loadVar ty a).run P w = .ok v w) :
    (results fn tmps).run P w = .ok (.tuple #[v, u]) w := by
  have ha' : tmps[p]?.getD undef = .pointer (some a) := by simpa using ha
  have hu' : tmps[q]?.getD undef = u := by simpa using hu
  simp [results, h, ha', hu', asAddr, hl, Result.andThen]
theorem bz_i {zs : List Int} (lz : zs.length = 32) : (Tryd.prog.info? 26).map (·.size) = some (zs.map fun z => Value.int .u8 z).length := by rw [List.length_map, lz]; kernel_rfl
set_option maxRecDepth 100000 in
set_option maxHeartbeats 4000000 in
theorem lDecode_any (a : E4) (zs : List Int) (w : World) (hT : Tb w) (lz : zs.length = 32) (hz : ∀ z ∈ zs, 0 ≤ z ∧ z ≤ 255) (B : Bool) (hB : decide ((num zs : Int) < Sm.L) = B) :
    Calls Tryd.prog 19 #[a.v, bv zs] w fun e w' => e = .returned (.tuple #[(cond B (limE (num zs)) zero4).v, .int .i64 (cond B 0 3)]) ∧ Below w.heap.size w w' := by
  have HT := hidden hT
  have DE := hidden (fun w T => Decode_any zs w T lz hz B hB)
  have IB := hidden (bz_i lz)
  generalize cond B (limE (num zs)) zero4 = z at *
  generalize (cond B 0 3 : Int) = er at *
  unfold bv at DE ⊢
  generalize (zs.map fun z => Value.int .u8 z) = cs at *
  clear hz lz hB hT
  have M0 := (((Mw.start w).new [.int .u64 a.x0, .int .u64 a.x1, .int .u64 a.x2, .int .u64 a.x3] 28).new cs 26).new [.int .u64 0, .int .u64 0, .int .u64 0, .int .u64 0] 28
  simp only [World.size_alloc] at M0
  have MM := hidden M0
  have RC := hidden (M0.r (w.heap.size + 1, cs) (by simp)).1
  have I1 := hidden (l4_i z)
  have O2 := hidden (c4_one z)
  clear M0
  unfold E4.v at DE ⊢
  go_enter Tryd.func19, Tryd.ntmps19
  go_wp2_with (first | refine wpList_load_mid rfl 26 _ rfl (w.heap.size + 1) 0 (by rfl) cs _ RC.out b_und rfl IB.out ?_ | (go_at_call 41; refine (DE.out _ (HT.out.keep MM.out.bel)).mono ?_; rintro e wa ⟨rfl, ha⟩; have M3 := (MM.out.keep ha).new [.int .u64 z.x0, .int .u64 z.x1, .int .u64 z.x2, .int .u64 z.x3] 24; have TH := hidden (M3.ther [.int .u64 z.x0, .int .u64 z.x1, .int .u64 z.x2, .int .u64 z.x3] (c := w.heap.size + 1 + 1) (o := [.int .u64 0, .int .u64 0, .int .u64 0, .int .u64 0]) (by simp) rfl); have M1 := M3.set (M := []) [.int .u64 z.x0, .int .u64 z.x1, .int .u64 z.x2, .int .u64 z.x3] (c := w.heap.size + 1 + 1) (o := [.int .u64 0, .int .u64 0, .int .u64 0, .int .u64 0]) (by simp) rfl (fun p hp => by cases hp); have LD := hidden (M1.var (c := w.heap.size + 1 + 1) (ds := [.int .u64 z.x0, .int .u64 z.x1, .int .u64 z.x2, .int .u64 z.x3]) (by simp) Tryd.underlying28 rfl I1.out); have BL := hidden M1.bel; clear M1 M3 ha) | refine wpList_store_mid rfl 28 _ _ rfl (w.heap.size + 1 + 1) 0 [.int .u64 z.x0, .int .u64 z.x1, .int .u64 z.x2, .int .u64 z.x3].toArray (by rfl) (by rfl) TH.out I1.out O2.out ?_)
  refine bodyPost_ret (v := .tuple #[.agg [.int .u64 z.x0, .int .u64 z.x1, .int .u64 z.x2, .int .u64 z.x3].toArray, .int .i64 er]) (results_pairM Tryd.results19 _ _ _ _ _ _ (by rfl) (by rfl) LD.out) rfl ⟨rfl, BL.out⟩
set_option maxRecDepth 100000 in
set_option maxHeartbeats 4000000 in
theorem eDecode_any (zs : List Int) (w : World) (lz : zs.length = 32) (hz : ∀ z ∈ zs, 0 ≤ z ∧ z ≤ 255) (B : Bool) (hB : decide ((num zs : Int) < Sm.L) = B) :
    Calls Tryd.prog 20 #[.int .i64 2, bv zs] w fun e w' => e = .returned (.tuple #[.agg (el (cond B (limE (num zs)) zero4)).toArray, .int .i64 (cond B 0 3)]) ∧ Below w.heap.size w w' := by
  have DE := hidden (fun w => rDecode_any zs w lz hz B hB)
  have NE := hidden (fun w => neutral_any w)
  have IB := hidden (bz_i lz)
  have LO := hidden (fun w => lineOf_any (limE (num zs)) w)
  generalize limE (num zs) = y at *
  unfold bv at DE ⊢
  generalize (zs.map fun z => Value.int .u8 z) = cs at *
  clear hz lz hB
  have M0 := ((Mw.start w).new cs 26).new [.int .i64 0, .int .i64 0, .int .i64 0, .int .i64 0, .int .i64 0, .int .i64 0, .int .i64 0, .int .i64 0, .int .i64 0, .int .i64 0, .int .i64 0, .int .i64 0, .int .i64 0, .int .i64 0, .int .i64 0, .int .i64 0, .int .i64 0, .int .i64 0, .int .i64 0, .int .i64 0, .int .i64 0, .int .u64 0, .int .u64 0, .int .u64 0, .int .u64 0, .slice none 0 0] 38
  simp only [World.size_alloc] at M0
  have MM := hidden M0
  have RC := hidden (M0.r (w.heap.size, cs) (by simp)).1
  clear M0

  cases B with
  | true =>
    simp only [cond_true] at DE ⊢
    have I1 := hidden (el_i y)
    have O2 := hidden (el_one y)
    simp only [E4.v] at DE LO
    go_enter Tryd.func20, Tryd.ntmps20
    go_wp2_with (first | refine wpList_load_mid rfl 26 _ rfl w.heap.size 0 (by rfl) cs _ RC.out b_und rfl IB.out ?_ | (go_at_call 44; refine (DE.out _).mono ?_; rintro e wa ⟨rfl, ha⟩; replace MM := hidden ((MM.out.keep ha).new [.int .u64 y.x0, .int .u64 y.x1, .int .u64 y.x2, .int .u64 y.x3] 35); clear ha) | (go_at_call 21; refine (LO.out _).mono ?_; rintro e wb ⟨rfl, ha⟩; have M3 := MM.out.keep ha; have TH := hidden (M3.ther (el y) (c := w.heap.size + 1) (o := [.int .i64 0, .int .i64 0, .int .i64 0, .int .i64 0, .int .i64 0, .int .i64 0, .int .i64 0, .int .i64 0, .int .i64 0, .int .i64 0, .int .i64 0, .int .i64 0, .int .i64 0, .int .i64 0, .int .i64 0, .int .i64 0, .int .i64 0, .int .i64 0, .int .i64 0, .int .i64 0, .int .i64 0, .int .u64 0, .int .u64 0, .int .u64 0, .int .u64 0, .slice none 0 0]) (by simp) rfl); have M1 := M3.set (M := []) (el y) (c := w.heap.size + 1) (o := [.int .i64 0, .int .i64 0, .int .i64 0, .int .i64 0, .int .i64 0, .int .i64 0, .int .i64 0, .int .i64 0, .int .i64 0, .int .i64 0, .int .i64 0, .int .i64 0, .int .i64 0, .int .i64 0, .int .i64 0, .int .i64 0, .int .i64 0, .int .i64 0, .int .i64 0, .int .i64 0, .int .i64 0, .int .u64 0, .int .u64 0, .int .u64 0, .int .u64 0, .slice none 0 0]) (by simp) rfl (fun p hp => by cases hp); have LD := hidden (M1.var (c := w.heap.size + 1) (ds := el y) (by simp) Tryd.underlying38 rfl I1.out); have BL := hidden M1.bel; clear M1 M3 ha) | refine wpList_store_mid rfl 38 _ _ rfl (w.heap.size + 1) 0 (el y).toArray (by rfl) (by rfl) TH.out I1.out O2.out ?_)
    refine bodyPost_ret (v := .tuple #[.agg (el y).toArray, .int .i64 0]) (results_pairM Tryd.results20 _ _ _ _ _ _ (by rfl) (by rfl) LD.out) rfl ⟨rfl, BL.out⟩

  | false =>
    simp only [cond_false] at DE ⊢
    have I1 := hidden (el_i zero4)
    have O2 := hidden (el_one zero4)
    simp only [E4.v, zero4] at DE
    go_enter Tryd.func20, Tryd.ntmps20
    go_wp2_with (first | refine wpList_load_mid rfl 26 _ rfl w.heap.size 0 (by rfl) cs _ RC.out b_und rfl IB.out ?_ | (go_at_call 44; refine (DE.out _).mono ?_; rintro e wa ⟨rfl, ha⟩; replace MM := hidden ((MM.out.keep ha).new [.int .u64 0, .int .u64 0, .int .u64 0, .int .u64 0] 35); clear ha) | (go_at_call 43; refine (NE.out _).mono ?_; rintro e wb ⟨rfl, ha⟩; have M3 := MM.out.keep ha; have TH := hidden (M3.ther (el zero4) (c := w.heap.size + 1) (o := [.int .i64 0, .int .i64 0, .int .i64 0, .int .i64 0, .int .i64 0, .int .i64 0, .int .i64 0, .int .i64 0, .int .i64 0, .int .i64 0, .int .i64 0, .int .i64 0, .int .i64 0, .int .i64 0, .int .i64 0, .int .i64 0, .int .i64 0, .int .i64 0, .int .i64 0, .int .i64 0, .int .i64 0, .int .u64 0, .int .u64 0, .int .u64 0, .int .u64 0, .slice none 0 0]) (by simp) rfl); have M1 := M3.set (M := []) (el zero4) (c := w.heap.size + 1) (o := [.int .i64 0, .int .i64 0, .int .i64 0, .int .i64 0, .int .i64 0, .int .i64 0, .int .i64 0, .int .i64 0, .int .i64 0, .int .i64 0, .int .i64 0, .int .i64 0, .int .i64 0, .int .i64 0, .int .i64 0, .int .i64 0, .int .i64 0, .int .i64 0, .int .i64 0, .int .i64 0, .int .i64 0, .int .u64 0, .int .u64 0, .int .u64 0, .int .u64 0, .slice none 0 0]) (by simp) rfl (fun p hp => by cases hp); have LD := hidden (M1.var (c := w.heap.size + 1) (ds := el zero4) (by simp) Tryd.underlying38 rfl I1.out); have BL := hidden M1.bel; clear M1 M3 ha) | refine wpList_store_mid rfl 38 _ _ rfl (w.heap.size + 1) 0 (el zero4).toArray (by rfl) (by rfl) TH.out I1.out O2.out ?_)
    refine bodyPost_ret (v := .tuple #[.agg (el zero4).toArray, .int .i64 3]) (results_pairM Tryd.results20 _ _ _ _ _ _ (by rfl) (by rfl) LD.out) rfl ⟨rfl, BL.out⟩
end Go.Proofs.YtldapnlajnllhabDoor
