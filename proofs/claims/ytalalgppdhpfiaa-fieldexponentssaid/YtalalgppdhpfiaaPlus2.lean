import Derived.Test.YtalalgppdhpfiaaPlus
import Derived.Deep.DeepCutAuto
import Derived.Laws.ResultCell
namespace Go.Proofs.Ytalalgppdhpfiaa
open Go.RowKit

theorem and255 (c : Int) (h0 : 0 ≤ c) (h1 : c ≤ 511) : bits .and .i64 c 255 = c % 256 := by
  have all : ∀ c : Fin 512, bits .and .i64 ((c.val : Nat) : Int) 255 = ((c.val : Nat) : Int) % 256 := by decide +kernel
  obtain ⟨C, rfl⟩ := Int.eq_ofNat_of_zero_le h0
  exact all ⟨C, by omega⟩

theorem PlW.drew {w0 : World} {zs ys : List Int} {Ob R k : Nat} {w : World} (h : PlW w0 zs ys Ob R k w) : PlW w0 zs ys Ob R k w.drew :=
  ⟨h.bz, h.bY, h.ot, h.fr, (World.there_drew w R 0 32).2 h.th, h.bel.drew⟩

theorem results_cell_tmp' {fn : Func} {p u : Tmp} {ty : TypeId} (h : fn.results = #[.cell p ty, .tmp u]) (tmps : Array Value) (P : Program) (w : World) (a : Addr) (v x : Value) (ha : tmps.getD p undef = .pointer (some a)) (hu : tmps.getD u undef = x) (hl : (loadVar ty a).run P w = .ok v w) :
    (results fn tmps).run P w = .ok (.tuple #[v, x]) w := by
  rw [results_cell_tmp h, ha, hu]
  simp [asAddr, hl, Result.andThen]

set_option maxRecDepth 100000 in
set_option maxHeartbeats 4000000 in
theorem plus_law (zs ys : List Int) (w : World) (lz : zs.length = 32) (hz : ∀ z ∈ zs, 0 ≤ z ∧ z ≤ 255) (ly : ys.length = 32) (hy : ∀ z ∈ ys, 0 ≤ z ∧ z ≤ 255) :
    Calls Try.prog 10 #[bv zs, bv ys] w fun e w' => e = .returned (.tuple #[bv (nbs (num zs + num ys)), .bool ((cy (num zs) (num ys) 32 : Int) == 0)]) ∧ Below w.heap.size w w' := by
  have ST := hidden (cy_step (num zs) (num ys))
  have CL := hidden (cy_le (num zs) (num ys))
  have GZ := hidden (fun k => num_get zs k hz)
  have GY := hidden (fun k => num_get ys k hy)
  have hc0 : cy (num zs) (num ys) 0 = 0 := by unfold cy; simp [Nat.mod_one]
  unfold bv
  have P0 : PlW w zs ys (w.heap.size + 1 + 1 + 1) (w.heap.size + 1 + 1) 0 ((((w.alloc (.cells (zs.map fun z => Value.int .u8 z).toArray 26)).alloc (.cells (ys.map fun z => Value.int .u8 z).toArray 26)).alloc (.cells #[.int .u8 0, .int .u8 0, .int .u8 0, .int .u8 0, .int .u8 0, .int .u8 0, .int .u8 0, .int .u8 0, .int .u8 0, .int .u8 0, .int .u8 0, .int .u8 0, .int .u8 0, .int .u8 0, .int .u8 0, .int .u8 0, .int .u8 0, .int .u8 0, .int .u8 0, .int .u8 0, .int .u8 0, .int .u8 0, .int .u8 0, .int .u8 0, .int .u8 0, .int .u8 0, .int .u8 0, .int .u8 0, .int .u8 0, .int .u8 0, .int .u8 0, .int .u8 0] 26)).alloc (.cells #[.int .u8 0, .int .u8 0, .int .u8 0, .int .u8 0, .int .u8 0, .int .u8 0, .int .u8 0, .int .u8 0, .int .u8 0, .int .u8 0, .int .u8 0, .int .u8 0, .int .u8 0, .int .u8 0, .int .u8 0, .int .u8 0, .int .u8 0, .int .u8 0, .int .u8 0, .int .u8 0, .int .u8 0, .int .u8 0, .int .u8 0, .int .u8 0, .int .u8 0, .int .u8 0, .int .u8 0, .int .u8 0, .int .u8 0, .int .u8 0, .int .u8 0, .int .u8 0] 26)) := by
    have y1 := Byt.new (w.alloc (.cells (zs.map fun z => Value.int .u8 z).toArray 26)) ys 26 ly
    rw [World.size_alloc] at y1
    have t2 := there_new ((w.alloc (.cells (zs.map fun z => Value.int .u8 z).toArray 26)).alloc (.cells (ys.map fun z => Value.int .u8 z).toArray 26)) #[.int .u8 0, .int .u8 0, .int .u8 0, .int .u8 0, .int .u8 0, .int .u8 0, .int .u8 0, .int .u8 0, .int .u8 0, .int .u8 0, .int .u8 0, .int .u8 0, .int .u8 0, .int .u8 0, .int .u8 0, .int .u8 0, .int .u8 0, .int .u8 0, .int .u8 0, .int .u8 0, .int .u8 0, .int .u8 0, .int .u8 0, .int .u8 0, .int .u8 0, .int .u8 0, .int .u8 0, .int .u8 0, .int .u8 0, .int .u8 0, .int .u8 0, .int .u8 0] 26
    rw [World.size_alloc, World.size_alloc] at t2
    refine ⟨(((Byt.new w zs _ lz).keep (bl_alloc _ _)).keep (bl_alloc _ _)).keep (bl_alloc _ _), (y1.keep (bl_alloc _ _)).keep (bl_alloc _ _), fun j hj => ?_, fun j hj => by go_simp, World.there_alloc t2 _, bl_trans (bl_alloc3 w _ _ _) (bl_alloc _ _)⟩
    have e3 : w.heap.size + 1 + 1 + 1 = (((w.alloc (.cells (zs.map fun z => Value.int .u8 z).toArray 26)).alloc (.cells (ys.map fun z => Value.int .u8 z).toArray 26)).alloc (.cells #[.int .u8 0, .int .u8 0, .int .u8 0, .int .u8 0, .int .u8 0, .int .u8 0, .int .u8 0, .int .u8 0, .int .u8 0, .int .u8 0, .int .u8 0, .int .u8 0, .int .u8 0, .int .u8 0, .int .u8 0, .int .u8 0, .int .u8 0, .int .u8 0, .int .u8 0, .int .u8 0, .int .u8 0, .int .u8 0, .int .u8 0, .int .u8 0, .int .u8 0, .int .u8 0, .int .u8 0, .int .u8 0, .int .u8 0, .int .u8 0, .int .u8 0, .int .u8 0] 26)).heap.size := by simp
    rw [e3, World.cell?_alloc_mark, if_neg (by omega)]
    have eZ : (#[.int .u8 0, .int .u8 0, .int .u8 0, .int .u8 0, .int .u8 0, .int .u8 0, .int .u8 0, .int .u8 0, .int .u8 0, .int .u8 0, .int .u8 0, .int .u8 0, .int .u8 0, .int .u8 0, .int .u8 0, .int .u8 0, .int .u8 0, .int .u8 0, .int .u8 0, .int .u8 0, .int .u8 0, .int .u8 0, .int .u8 0, .int .u8 0, .int .u8 0, .int .u8 0, .int .u8 0, .int .u8 0, .int .u8 0, .int .u8 0, .int .u8 0, .int .u8 0] : Array Value) = Array.replicate 32 (.int .u8 0) := rfl
    rw [eZ]
    simp [hj]
  have PH := hidden P0
  clear P0 lz hz ly hy
  generalize hA : num zs = A at *
  generalize hB : num ys = B at *
  have HA := hidden hA
  have HB := hidden hB
  clear hA hB
  go_enter Try.func10, Try.ntmps10
  go_wp2_with fail
  go_loopw [7, 8] (fun c i w' => ∃ k : Nat, k ≤ 32 ∧ c = .int .i64 (cy A B k : Int) ∧ i = .int .i64 k ∧ PlW w zs ys (w.heap.size + 1 + 1 + 1) (w.heap.size + 1 + 1) k w') (fun _ i _ => 32 - (intOf i).toNat)
  case atStart => exact ⟨0, by omega, by rw [hc0]; rfl, rfl, PH.out⟩
  case round =>
    obtain ⟨k, hk, rfl, rfl, hP⟩ := hrel
    clear PH hc0
    by_cases hlt : k < 32
    · have hx := hP.bz.2 k hlt
      have hy := hP.bY.2 k hlt
      have ho := hP.ot k hlt
      have hf := hP.fr k hlt
      rw [GZ.out k] at hx
      rw [GY.out k] at hy
      rw [if_neg (by omega)] at ho
      have NEXT := hP.step hlt (by omega)
      rw [HA.out, HB.out] at NEXT
      have NH := hidden NEXT
      obtain ⟨st1, st2⟩ := ST.out k
      have hcl := CL.out k
      have hnb : nb (A + B) k = ((cy A B k : Int) + ((A / 256 ^ k % 256 : Nat) : Int) + ((B / 256 ^ k % 256 : Nat) : Int)) % 256 := by unfold nb; rw [st2]; omega
      have hcn : (cy A B (k + 1) : Int) = ((cy A B k : Int) + ((A / 256 ^ k % 256 : Nat) : Int) + ((B / 256 ^ k % 256 : Nat) : Int)) / 256 := by rw [st1]; omega
      have hax : A / 256 ^ k % 256 < 256 := by omega
      have hbx : B / 256 ^ k % 256 < 256 := by omega
      have HNB := hidden hnb
      have HCN := hidden hcn
      clear NEXT hP st1 st2 hnb hcn
      generalize A / 256 ^ k % 256 = X at *
      generalize B / 256 ^ k % 256 = Y at *
      generalize hc : cy A B k = C at *
      have HC := hidden hc
      clear hc
      have ka := and255 ((C : Int) + X + Y) (by omega) (by omega)
      go_upto_region 6 with fail
      go_region
      all_goals go_wp2_with fail
      refine ⟨⟨k + 1, by omega, by rw [HCN.out], by go_num, ?_⟩, by simp [intOf]; omega⟩
      rw [← HNB.out]
      exact NH.out.drew
    · have hk32 : k = 32 := by omega
      subst hk32
      have hr : wr.rangeAt (w.heap.size + 1 + 1 + 1) 0 ((nbs (A + B)).map fun z => Value.int .u8 z) := fun j v hv => by
        have hj : j < 32 := by
          have := (List.getElem?_eq_some_iff.1 hv).1
          simpa [nbs] using this
        have ev : v = .int .u8 (nb (A + B) j) := by
          simp [nbs, hj] at hv
          exact hv.symm
        rw [ev, Nat.zero_add, hP.ot j hj, if_pos hj, HA.out, HB.out]
      have hl : ((nbs (A + B)).map fun z => Value.int .u8 z).length = 32 := by simp [nbs]
      have ho : ((nbs (A + B)).map fun z => Value.int .u8 z).toArray.all (·.oneCell') = true := all_oneCell_toArray (fun v hv => by
        obtain ⟨z, _, rfl⟩ := List.mem_map.1 hv
        rfl)
      have hi : (Try.prog.info? 26).map (·.size) = some ((nbs (A + B)).map fun z => Value.int .u8 z).length := by rw [hl]; kernel_rfl
      have hu : Try.prog.underlying 26 = some (.array 32 5) := by kernel_rfl
      have hth := hP.th
      have hbel := hidden hP.bel
      clear hP GZ GY ST CL
      generalize hcs : ((nbs (A + B)).map fun z => Value.int .u8 z) = cs at *
      generalize hcy : cy A B 32 = C at *
      have HCS := hidden hcs
      have HCY := hidden hcy
      clear hcs hcy
      have hth2 : wr.there (w.heap.size + 1 + 1) 0 cs.toArray.size := by simpa [hl] using hth
      have hi2 : (Try.prog.info? 26).map (·.size) = some cs.toArray.size := by simpa using hi
      have RD := run_loadVar_mid (P := Try.prog) (wr.setCells (w.heap.size + 1 + 1) 0 cs) (w.heap.size + 1 + 1) 0 26 cs _ (World.rangeAt_setCells_same wr (w.heap.size + 1 + 1) 0 cs (by rw [hl]; exact hth)) hu rfl hi
      have BEL : Below w.heap.size w (wr.setCells (w.heap.size + 1 + 1) 0 cs) := below_setCells (w.heap.size + 1 + 1) cs 0 hbel.out (by omega)
      have HU := hidden hu
      have HI := hidden hi
      have HI2 := hidden hi2
      have HTH := hidden hth2
      have HRA := hidden hr
      have HO := hidden ho
      have RDH := hidden RD
      have BELH := hidden BEL
      clear hth hth2 hu hi ho hi2 hr RD BEL
      go_upto_region 9 with fail
      go_wp2_with (first | refine wpList_load_mid rfl 26 _ rfl (w.heap.size + 1 + 1 + 1) 0 (by rfl) cs _ HRA.out HU.out rfl HI.out ?_ | refine wpList_store_mid rfl 26 _ _ rfl (w.heap.size + 1 + 1) 0 cs.toArray (by rfl) (by rfl) HTH.out HI2.out HO.out ?_)
      refine bodyPost_ret (v := .tuple #[.agg cs.toArray, .bool ((C : Int) == 0)]) (results_cell_tmp' Try.results10 _ _ _ _ _ _ (by rfl) (by rfl) RDH.out) rfl ⟨by rw [HCS.out, HCY.out], ?_⟩
      exact BELH.out
end Go.Proofs.Ytalalgppdhpfiaa
