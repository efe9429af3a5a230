import Derived.Test.YtglalahmcckjaaaDoorSsp
import Derived.Laws.Bits128
import Derived.Laws.OwnMore
import Derived.Test.YtglalahmcckjaaaDoorSen
namespace Go.Proofs.YtglalahmcckjaaaDoor
open Go.RowKit

/-- column k of 16 bits -/
def col (S : Int) (k : Nat) : Int := S / 2 ^ (16 * k) % 65536
def colV (S : Int) : List Value := (List.range 20).map fun k => Value.int .i64 (col S k)
theorem Rwi.there {w : World} {b n : Nat} {f : Nat → Int} (h : Rwi w b n f) : w.there b 0 n := fun j hj => by rw [Nat.zero_add, h.c j hj]; exact ⟨rfl, h.fr j hj⟩
theorem results_cell_tmp {fn : Func} {p q : Tmp} {ty : TypeId} (h : fn.results = #[.cell p ty, .tmp q]) (tmps : Array Value) (P : Program) (w : World) (a : Addr) (v u : Value) (ha : tmps.getD p undef = .pointer (some a)) (hu : tmps.getD q undef = u) (hl : (loadVar ty a).run P w = .ok v w) :
    (results fn tmps).run P w = .ok (.tuple #[v, u]) w := by
  have e : (results fn tmps).run P w = ((asAddr (tmps.getD p undef)).run P w).andThen fun a w1 => ((loadVar ty a).run P w1).andThen fun v w2 => .ok (.tuple #[v, tmps.getD q undef]) w2 := by
    simp only [results, h]
    simp [Sem.run_bind, Result.andThen]
  rw [e, ha, hu]
  simp [asAddr, hl, Result.andThen]
theorem i64_and16 (n : Int) : bits .and .i64 n 65535 = n % 65536 := by
  have h16 : (BitVec.ofInt 64 65535).toNat = 2 ^ 16 - 1 := by decide
  have key : (BitVec.ofInt 64 n &&& BitVec.ofInt 64 65535).toNat = (n % ((2 ^ 64 : Nat) : Int)).toNat % 2 ^ 16 := by
    rw [BitVec.toNat_and, BitVec.toNat_ofInt, h16, Nat.and_two_pow_sub_one_eq_mod]
  show IntKind.i64.wrap ((BitVec.ofInt 64 n &&& BitVec.ofInt 64 65535).toNat : Nat) = n % 65536
  rw [key, IntKind.wrap_i64]
  omega
theorem sw_rest (C : Nat → Int) (k n : Nat) (h : k ≤ n) : ∃ Z, sw C 16 n = sw C 16 k + 2 ^ (16 * k) * Z := by
  induction n with
  | zero => exact ⟨0, by rw [show k = 0 by omega]; simp [sw]⟩
  | succ n ih =>
    by_cases hk : k = n + 1
    · exact ⟨0, by rw [hk]; simp⟩
    · obtain ⟨Z, hZ⟩ := ih (by omega)
      refine ⟨Z + C n * 2 ^ (16 * n - 16 * k), ?_⟩
      rw [sw, hZ, Int.mul_add, p2mul (16 * k) (16 * n) (by omega), Int.add_assoc]
      congr 1
      congr 1
      rw [← Int.mul_assoc, ← Int.mul_assoc, Int.mul_comm (2 ^ (16 * k))]
theorem ediv_up (T C : Int) (k : Nat) : (T + C * 2 ^ k) / 2 ^ k = T / 2 ^ k + C := Int.add_mul_ediv_right _ _ (by have := p2pos k; omega)
/-- the carried columns -/
theorem col_step (C : Nat → Int) (k : Nat) (hk : k < 20) (c : Int) (hc : c = sw C 16 k / 2 ^ (16 * k)) :
    (c + C k) % 65536 = col (sw C 16 20) k ∧ (c + C k) / 65536 = sw C 16 (k + 1) / 2 ^ (16 * (k + 1)) := by
  have e1 : sw C 16 (k + 1) / 2 ^ (16 * k) = c + C k := by rw [sw, ediv_up, hc]
  constructor
  · obtain ⟨Z, hZ⟩ := sw_rest C (k + 1) 20 (by omega)
    unfold col
    rw [hZ, show 16 * (k + 1) = 16 * k + 16 by omega, Int.pow_add, Int.mul_assoc, Int.add_mul_ediv_left _ _ (by have := p2pos (16 * k); omega), e1, show (2 : Int) ^ 16 = 65536 from rfl, Int.add_mul_emod_self_left]
  · rw [show 16 * (k + 1) = 16 * k + 16 by omega, Int.pow_add, ← Int.ediv_ediv_of_nonneg (by have := p2pos (16 * k); omega), e1, show (2 : Int) ^ 16 = 65536 from rfl]

set_option maxRecDepth 100000 in
set_option maxHeartbeats 16000000 in
theorem columns_any (p n cp m : Nat) (f : Nat → Int) (w : World) (hn : n ≤ 254) (hw : ∀ j, j < n → m * j ≤ 253) (hf : ∀ j, j < n → -1048576 ≤ f j ∧ f j ≤ 1048576) (hR : Rwi w p n f) :
    Calls Tryd.prog 27 #[.slice (some ⟨p, 0, none⟩) n cp, .int .i64 m] w fun e w' => ∃ S, S = sw f m n ∧ e = .returned (.tuple #[.agg (colV S).toArray, .bool (decide (S / 2 ^ 320 = 0))]) ∧ Below w.heap.size w w' := by
  have HW := hidden hw
  have HF := hidden hf
  have HR := hidden hR
  have nn0 : (0 : Int) ≤ (n : Int) := by omega
  have nn1 : (n : Int) ≤ 254 := by omega
  clear hw hf hR
  go_enter Tryd.func27, Tryd.ntmps27
  go_upto_region 2 with fail
  have b0 : Below w.heap.size w ((w.alloc (.cells #[.int .i64 0, .int .i64 0, .int .i64 0, .int .i64 0, .int .i64 0, .int .i64 0, .int .i64 0, .int .i64 0, .int .i64 0, .int .i64 0, .int .i64 0, .int .i64 0, .int .i64 0, .int .i64 0, .int .i64 0, .int .i64 0, .int .i64 0, .int .i64 0, .int .i64 0, .int .i64 0] 45)).alloc (.cells #[.int .i64 0, .int .i64 0, .int .i64 0, .int .i64 0, .int .i64 0, .int .i64 0, .int .i64 0, .int .i64 0, .int .i64 0, .int .i64 0, .int .i64 0, .int .i64 0, .int .i64 0, .int .i64 0, .int .i64 0, .int .i64 0, .int .i64 0, .int .i64 0, .int .i64 0, .int .i64 0] 45)) := bl_alloc2 w _ _
  have eZ : (#[.int .i64 0, .int .i64 0, .int .i64 0, .int .i64 0, .int .i64 0, .int .i64 0, .int .i64 0, .int .i64 0, .int .i64 0, .int .i64 0, .int .i64 0, .int .i64 0, .int .i64 0, .int .i64 0, .int .i64 0, .int .i64 0, .int .i64 0, .int .i64 0, .int .i64 0, .int .i64 0] : Array Value) = madeCells #[.int .i64 0] 20 := by
    apply Array.ext'
    rw [toList_madeCells_one]
    rfl
  have r0 : Rwi ((w.alloc (.cells #[.int .i64 0, .int .i64 0, .int .i64 0, .int .i64 0, .int .i64 0, .int .i64 0, .int .i64 0, .int .i64 0, .int .i64 0, .int .i64 0, .int .i64 0, .int .i64 0, .int .i64 0, .int .i64 0, .int .i64 0, .int .i64 0, .int .i64 0, .int .i64 0, .int .i64 0, .int .i64 0] 45)).alloc (.cells #[.int .i64 0, .int .i64 0, .int .i64 0, .int .i64 0, .int .i64 0, .int .i64 0, .int .i64 0, .int .i64 0, .int .i64 0, .int .i64 0, .int .i64 0, .int .i64 0, .int .i64 0, .int .i64 0, .int .i64 0, .int .i64 0, .int .i64 0, .int .i64 0, .int .i64 0, .int .i64 0] 45)) (w.heap.size) 20 (fun _ => 0) := by
    rw [eZ]
    exact (Rwi.made w 20 _).keep (bl_alloc _ _)
  have r1 : Rwi ((w.alloc (.cells #[.int .i64 0, .int .i64 0, .int .i64 0, .int .i64 0, .int .i64 0, .int .i64 0, .int .i64 0, .int .i64 0, .int .i64 0, .int .i64 0, .int .i64 0, .int .i64 0, .int .i64 0, .int .i64 0, .int .i64 0, .int .i64 0, .int .i64 0, .int .i64 0, .int .i64 0, .int .i64 0] 45)).alloc (.cells #[.int .i64 0, .int .i64 0, .int .i64 0, .int .i64 0, .int .i64 0, .int .i64 0, .int .i64 0, .int .i64 0, .int .i64 0, .int .i64 0, .int .i64 0, .int .i64 0, .int .i64 0, .int .i64 0, .int .i64 0, .int .i64 0, .int .i64 0, .int .i64 0, .int .i64 0, .int .i64 0] 45)) (w.heap.size + 1) 20 (fun _ => 0) := by
    rw [eZ]
    have h := Rwi.made (w.alloc (.cells (madeCells #[.int .i64 0] 20) 45)) 20 45
    rw [World.size_alloc] at h
    exact h
  clear eZ
  have B0 := hidden b0
  have R0 := hidden r0
  have R1 := hidden r1
  clear b0 r0 r1
  generalize ((w.alloc (.cells #[.int .i64 0, .int .i64 0, .int .i64 0, .int .i64 0, .int .i64 0, .int .i64 0, .int .i64 0, .int .i64 0, .int .i64 0, .int .i64 0, .int .i64 0, .int .i64 0, .int .i64 0, .int .i64 0, .int .i64 0, .int .i64 0, .int .i64 0, .int .i64 0, .int .i64 0, .int .i64 0] 45)).alloc (.cells #[.int .i64 0, .int .i64 0, .int .i64 0, .int .i64 0, .int .i64 0, .int .i64 0, .int .i64 0, .int .i64 0, .int .i64 0, .int .i64 0, .int .i64 0, .int .i64 0, .int .i64 0, .int .i64 0, .int .i64 0, .int .i64 0, .int .i64 0, .int .i64 0, .int .i64 0, .int .i64 0] 45)) = wB at B0 R0 R1 ⊢
  go_wp2_with fail
  go_loopw [7] (fun iv w' => ∃ (i : Nat) (C : Nat → Int), i ≤ n ∧ iv = .int .i64 i ∧ Hid (sw C 16 20 = sw f m i ∧ ∀ k, -(34359738368 * (i : Int)) ≤ C k ∧ C k ≤ 34359738368 * (i : Int)) ∧ Hid (Rwi w' (w.heap.size + 1) 20 C) ∧ Hid (Rwi w' (w.heap.size) 20 (fun _ => 0)) ∧ Hid (Below w.heap.size w w')) (fun i _ => n - (intOf i).toNat)
  case atStart => exact ⟨0, fun _ => 0, by omega, rfl, hidden ⟨by rw [sw_zero]; rfl, fun k => by simp⟩, R1, R0, B0⟩
  case round =>
    clear B0 R0 R1
    obtain ⟨i, C, hi, rfl, hC, hro, hrr, hbl⟩ := hrel
    by_cases hin : i < n
    · have ii0 : (0 : Int) ≤ (i : Int) := by omega
      have ii1 : (i : Int) < (n : Int) := by omega
      have hpq := HW.out i hin
      have fb := HF.out i hin
      have hp : IntKind.i64.wrap ((m : Int) * (i : Int)) = ((m * i : Nat) : Int) := by rw [← Int.natCast_mul]; exact IntWalk.i64_in _ (by omega)
      have hs : Hid (sw f m (i + 1) = sw f m i + f i * 2 ^ (m * i)) := hidden rfl
      have cl := cell_keep (HR.out.c i hin) hbl.out
      have cl2 : wr.drew.cell? ⟨p, i, none⟩ = some (.int .i64 (f i)) := cell_keep (HR.out.c i hin) hbl.out.drew
      obtain ⟨pp, hpp⟩ : ∃ p, m * i = p := ⟨_, rfl⟩
      rw [hpp] at hp hpq hs
      obtain ⟨q, hq⟩ : ∃ q, pp / 16 = q := ⟨_, rfl⟩
      obtain ⟨r, hr⟩ : ∃ r, pp % 16 = r := ⟨_, rfl⟩
      have q17 : q < 18 := by omega
      have r16 : r < 16 := by omega
      have pp0 : (0 : Int) ≤ (pp : Int) := by omega
      have dq : (pp : Int).tdiv 16 = (q : Int) := by rw [Int.tdiv_eq_ediv_of_nonneg pp0]; omega
      have dr : (pp : Int).tmod 16 = (r : Int) := by rw [Int.tmod_eq_emod_of_nonneg pp0]; omega
      have q0 : (0 : Int) ≤ (q : Int) := by omega
      have q1 : (q : Int) < 18 := by omega
      have q2 : ¬ (17 : Int) < (q : Int) := by omega
      have q3 : (q : Int) < 20 := by omega
      have wq : IntKind.i64.wrap (q : Int) = (q : Int) := IntWalk.i64_in _ (by omega)
      have wr2 : IntKind.i64.wrap (r : Int) = (r : Int) := IntWalk.i64_in _ (by omega)
      have r0 : (0 : Int) ≤ (r : Int) := by omega
      have r1 : (r : Int) < 16 := by omega
      obtain ⟨y, hy⟩ : ∃ y, f i = y := ⟨_, rfl⟩
      rw [hy] at fb hs cl cl2
      have g1 : ¬ (1048576 : Int) < y := by omega
      have g2 : ¬ y < (-1048576 : Int) := by omega
      obtain ⟨P, hP⟩ : ∃ P, (2 : Int) ^ r = P := ⟨_, rfl⟩
      have Pb : 1 ≤ P ∧ P ≤ 32768 := by
        rw [← hP]
        have h1 := p2pos r
        have h2 := pow_le r 15 (by omega)
        rw [show (2 : Int) ^ 15 = 32768 from rfl] at h2
        omega
      have yb : -34359738368 ≤ y * P ∧ y * P ≤ 34359738368 := by
        have h1 : y * P ≤ 1048576 * P := Int.mul_le_mul_of_nonneg_right fb.2 (by omega)
        have h2 : -1048576 * P ≤ y * P := Int.mul_le_mul_of_nonneg_right fb.1 (by omega)
        omega
      have w1 : IntKind.i64.wrap (y * 2 ^ r) = y * P := by rw [hP]; exact IntWalk.i64_in _ (by omega)
      have cb := hC.out.2
      have co : wr.drew.cell? ⟨w.heap.size + 1, q, none⟩ = some (.int .i64 (C q)) := (hro.out.drew).c q (by omega)
      have fo := (hro.out.drew).fr q (by omega)
      obtain ⟨x, hx⟩ : ∃ x, C q = x := ⟨_, rfl⟩
      have xb := cb q
      rw [hx] at xb co
      have w2 : IntKind.i64.wrap (x + y * P) = x + y * P := IntWalk.i64_in _ (by omega)
      have NC : Hid (sw (fun k => if k = q then x + y * P else C k) 16 20 = sw f m (i + 1) ∧ ∀ k, -(34359738368 * ((i + 1 : Nat) : Int)) ≤ (fun k => if k = q then x + y * P else C k) k ∧ (fun k => if k = q then x + y * P else C k) k ≤ 34359738368 * ((i + 1 : Nat) : Int)) := hidden ⟨by
          rw [sw_put C 16 q _ 20 (by omega), hC.out.1, hs.out, hx, show x + y * P - x = y * P by omega, ← hP, Int.mul_assoc, ← Int.pow_add, show r + 16 * q = pp by omega], fun k => by
          have := cb k
          dsimp only
          split <;> omega⟩
      have NR := hidden ((hro.out.drew).at q (by omega) (x + y * P))
      have NZ : Hid (Rwi (wr.drew.setCell ⟨w.heap.size + 1, q, none⟩ (.int .i64 (x + y * P))) (w.heap.size) 20 (fun _ => 0)) := hidden ((hrr.out.drew).far (by omega) q _)
      have NB : Hid (Below w.heap.size w (wr.drew.setCell ⟨w.heap.size + 1, q, none⟩ (.int .i64 (x + y * P)))) := hidden (hbl.out.drew.setCell (by show w.heap.size ≤ w.heap.size + 1; omega) _)
      clear hC hro hrr hbl hs hpp hq hr hy hP hx cb yb xb Pb fb
      go_upto_region 8 with fail
      go_region_with fail
      all_goals
        clear cl cl2 co fo w1 w2
        go_wp2_with fail
        go_roundw
        case rel => exact ⟨i + 1, _, by omega, by go_num, NC, NR, NZ, NB⟩
        case measure => simp [intOf]; omega
    · have hii : i = n := by omega
      subst hii
      have lq : ¬ (i : Int) < (i : Int) := by omega
      have SE := hidden hC.out.1
      have cb := hidden hC.out.2
      obtain ⟨S, hS⟩ : ∃ S, sw C 16 20 = S := ⟨_, rfl⟩
      have ST := hidden (fun (k : Nat) (hk : k < 20) (c : Int) (hc : c = sw C 16 k / 2 ^ (16 * k)) => col_step C k hk c hc)
      have HS := hidden hS
      rw [hS] at ST SE
      clear hC hS
      go_wp2_with fail
      go_loopw [9, 10] (fun cv kv w' => ∃ (k : Nat) (c : Int), k ≤ 20 ∧ cv = .int .i64 c ∧ kv = .int .i64 k ∧ (-17592186044416 ≤ c ∧ c ≤ 17592186044416) ∧ Hid (c = sw C 16 k / 2 ^ (16 * k)) ∧ Hid (Rwi w' (w.heap.size + 1) 20 (fun j => if j < k then col S j else C j)) ∧ Hid (Rwi w' (w.heap.size) 20 (fun _ => 0)) ∧ Hid (Below w.heap.size w w')) (fun _ k _ => 20 - (intOf k).toNat)
      case atStart => exact ⟨0, 0, by omega, rfl, rfl, by omega, hidden (by simp [sw]), hidden (hro.out.congr (fun j _ => by rw [if_neg (by omega)])), hrr, hbl⟩
      case round =>
        clear hro hrr hbl
        obtain ⟨k, c, hk, rfl, rfl, hcb, hc, hro, hrr, hbl⟩ := hrel
        by_cases hk20 : k < 20
        · have kk0 : (0 : Int) ≤ (k : Int) := by omega
          have kk1 : (k : Int) < 20 := by omega
          obtain ⟨st1, st2⟩ := ST.out k hk20 c hc.out
          have xb := cb.out k
          have co : wr.cell? ⟨w.heap.size + 1, k, none⟩ = some (.int .i64 (C k)) := by have h := hro.out.c k hk20; rw [if_neg (by omega)] at h; exact h
          have fo := hro.out.fr k hk20
          obtain ⟨x, hx⟩ : ∃ x, C k = x := ⟨_, rfl⟩
          rw [hx] at xb co st1 st2
          obtain ⟨t, ht⟩ : ∃ t, c + x = t := ⟨_, rfl⟩
          rw [ht] at st1 st2
          have w1 : IntKind.i64.wrap (c + x) = t := by rw [ht]; exact IntWalk.i64_in _ (by omega)
          have A1 := i64_and16 t
          have tb : -17592186044416 ≤ t / 65536 ∧ t / 65536 ≤ 17592186044416 := by omega
          rw [st1] at A1
          have NR : Hid (Rwi (wr.setCell ⟨w.heap.size + 1, k, none⟩ (.int .i64 (col S k))) (w.heap.size + 1) 20 (fun j => if j < k + 1 then col S j else C j)) := hidden ((hro.out.at k hk20 (col S k)).congr (fun j _ => by
            by_cases hj : j = k
            · subst hj
              rw [if_pos rfl, if_pos (by omega)]
            · rw [if_neg hj]
              by_cases hlt : j < k
              · rw [if_pos hlt, if_pos (by omega)]
              · rw [if_neg hlt, if_neg (by omega)]))
          have NZ : Hid (Rwi (wr.setCell ⟨w.heap.size + 1, k, none⟩ (.int .i64 (col S k))) (w.heap.size) 20 (fun _ => 0)) := hidden (hrr.out.far (by omega) k _)
          have NB : Hid (Below w.heap.size w (wr.setCell ⟨w.heap.size + 1, k, none⟩ (.int .i64 (col S k)))) := hidden (hbl.out.setCell (by show w.heap.size ≤ w.heap.size + 1; omega) _)
          have N2 := hidden st2
          generalize col S k = v at *
          clear hro hrr hbl hc st1 st2 hx ht xb
          go_wp2_with fail
          go_roundw
          case rel => exact ⟨k + 1, t / 65536, by omega, rfl, by go_num, tb, N2, NR, NZ, NB⟩
          case measure => simp [intOf]; omega
        · have hkk : k = 20 := by omega
          subst hkk
          rw [show ((20 : Nat) : Int) = 20 from rfl]
          have hc2 := hc.out
          rw [HS.out, show 16 * 20 = 320 from rfl] at hc2
          have HC := hidden hc2
          have hr : wr.rangeAt (w.heap.size + 1) 0 (colV S) := fun j v hv => by
            have hj : j < 20 := by
              obtain ⟨h1, _⟩ := List.getElem?_eq_some_iff.1 hv
              simpa [colV] using h1
            rw [Nat.zero_add, hro.out.c j hj, if_pos hj]
            simp [colV, hj] at hv
            rw [← hv]
          have hl : (colV S).length = 20 := by simp [colV]
          have ho : (colV S).toArray.all (·.oneCell') = true := all_oneCell_toArray (fun v hv => by
            obtain ⟨z, _, rfl⟩ := List.mem_map.1 hv
            rfl)
          have hi2 : (Tryd.prog.info? 45).map (·.size) = some (colV S).length := by rw [hl]; kernel_rfl
          have hu : Tryd.prog.underlying 45 = some (.array 20 2) := by kernel_rfl
          have hth := hrr.out.there
          generalize hcs : colV S = cs at *
          have hth2 : wr.there (w.heap.size) 0 cs.toArray.size := by simpa [hl] using hth
          have hi3 : (Tryd.prog.info? 45).map (·.size) = some cs.toArray.size := by simpa using hi2
          have RD := run_loadVar_mid (P := Tryd.prog) (wr.setCells (w.heap.size) 0 cs) (w.heap.size) 0 45 cs _ (World.rangeAt_setCells_same wr (w.heap.size) 0 cs (by rw [hl]; exact hth)) hu rfl hi2
          have BEL : Below w.heap.size w (wr.setCells (w.heap.size) 0 cs) := below_setCells (w.heap.size) cs 0 hbl.out (by omega)
          have HU := hidden hu
          have HI := hidden hi2
          have HI2 := hidden hi3
          have HTH := hidden hth2
          have HRA := hidden hr
          have HO := hidden ho
          have RDH := hidden RD
          have BELH := hidden BEL
          clear hth hth2 hu hi2 hi3 ho hr RD BEL hro hrr hbl hc hc2 ST cb
          go_upto_region 16 with fail
          go_wp2_with (first | refine wpList_load_mid rfl 45 _ rfl (w.heap.size + 1) 0 (by rfl) cs _ HRA.out HU.out rfl HI.out ?_ | refine wpList_store_mid rfl 45 _ _ rfl (w.heap.size) 0 cs.toArray (by rfl) (by rfl) HTH.out HI2.out HO.out ?_)
          have RD := RDH.out
          refine bodyPost_ret (v := .tuple #[.agg cs.toArray, .bool (c == 0)]) (results_cell_tmp Tryd.results27 _ _ _ _ _ _ (by rfl) (by rfl) RD) rfl ?_
          refine ⟨S, SE.out, ?_, BELH.out⟩
          rw [hcs, HC.out]
          rfl
end Go.Proofs.YtglalahmcckjaaaDoor
