import Derived.Test.YtpblcnefihhhoaaDoorSar
import Derived.Test.YtpblcnefihhhoaaDoorSwi
import Derived.Laws.MakeOwn
namespace Go.Proofs.YtpblcnefihhhoaaDoor
open Go.RowKit

theorem made4 (n j : Nat) (hj : j < n * 4) : (madeCells #[.int .u64 0, .int .u64 0, .int .u64 0, .int .u64 0] (n * 4))[j]? = some (.int .u64 0) := by
  have h4 : j % 4 = 0 ∨ j % 4 = 1 ∨ j % 4 = 2 ∨ j % 4 = 3 := by omega
  simp only [madeCells]
  rw [Array.getElem?_map, Array.getElem?_range]
  rw [if_pos hj]
  rcases h4 with h | h | h | h <;> simp [h]
theorem Rws.made (w : World) (n : Nat) (t : TypeId) : Rws (w.alloc (.cells (madeCells #[.int .u64 0, .int .u64 0, .int .u64 0, .int .u64 0] (n * 4)) t)) w.heap.size n (fun _ => zero4) := by
  have hc : ∀ j, j < n * 4 → (w.alloc (.cells (madeCells #[.int .u64 0, .int .u64 0, .int .u64 0, .int .u64 0] (n * 4)) t)).cell? ⟨w.heap.size, j, none⟩ = some (.int .u64 0) := fun j hj => by
    rw [cell_of_row (w.alloc (.cells (madeCells #[.int .u64 0, .int .u64 0, .int .u64 0, .int .u64 0] (n * 4)) t)) w.heap.size j (madeCells #[.int .u64 0, .int .u64 0, .int .u64 0, .int .u64 0] (n * 4)) t (0, 0) (heap_alloc_new w _)]
    exact made4 n j hj
  exact ⟨fun k hk => hc _ (by omega), fun k hk => hc _ (by omega), fun k hk => hc _ (by omega), fun k hk => hc _ (by omega), fun k hk => by go_simp, by simp⟩
/-- 32 bytes from a place on -/
def b32 (f : Nat → Int) (o : Nat) : List Int := (List.range 32).map fun j => f (o + j)
theorem b32_len (f : Nat → Int) (o : Nat) : (b32 f o).length = 32 := by simp [b32]
/-- the scalar of 64 bytes -/
def tp (f : Nat → Int) (i : Nat) : E4 := lst (num (b32 f (64 * i)) + num (b32 f (64 * i + 32)) * R)
/-- bytes that lie from an address on -/
structure Bs (w : World) (b o n : Nat) (f : Nat → Int) : Prop where
  c : ∀ j, j < n → w.cell? ⟨b, o + j, none⟩ = some (.int .u8 (f j))
  r : ∀ j, j < n → 0 ≤ f j ∧ f j ≤ 255
theorem Bs.keep {w1 w2 : World} {b o n : Nat} {f : Nat → Int} (h : Bs w1 b o n f) (hb : Below w1.heap.size w1 w2) : Bs w2 b o n f := ⟨fun j hj => cell_keep (h.c j hj) hb, h.r⟩
theorem b32_in {w : World} {b o n : Nat} {f : Nat → Int} (h : Bs w b o n f) (p : Nat) (hp : p + 32 ≤ n) : ∀ z ∈ b32 f p, 0 ≤ z ∧ z ≤ 255 := fun z hz => by
  obtain ⟨j, hj, rfl⟩ := List.mem_map.1 hz
  have := List.mem_range.1 hj
  exact h.r _ (by omega)
theorem b64_range {w : World} {b o n : Nat} {f : Nat → Int} (h : Bs w b o n f) (p : Nat) (hp : p + 64 ≤ n) : w.rangeAt b (o + p) ((b32 f p ++ b32 f (p + 32)).map fun z => Value.int .u8 z) := fun j v hv => by
  have hj : j < 64 := by
    obtain ⟨h1, _⟩ := List.getElem?_eq_some_iff.1 hv
    simpa [b32] using h1
  rw [Nat.add_assoc, h.c (p + j) (by omega), ← hv]
  by_cases h32 : j < 32
  · simp [b32, h32, List.getElem?_append_left]
  · rw [List.getElem?_map, List.getElem?_append_right (by rw [b32_len]; omega), b32_len]
    simp [b32, show j - 32 < 32 by omega, show p + 32 + (j - 32) = p + j by omega]

set_option maxRecDepth 100000 in
set_option maxHeartbeats 16000000 in
theorem Tape_in (P : Option Addr) (sb so len cap n : Nat) (f : Nat → Int) (w : World) (hP : 0 < n → P = some ⟨sb, so, none⟩) (hT : Tb w) (hn : n ≤ 4096) (hl : 64 * n ≤ len) (hlen : len < 9223372036854775807) (hcap : len ≤ cap) (hB : 0 < n → Bs w sb so len f) :
    Calls Tryd.prog 15 #[.slice P len cap, .int .i64 n] w fun e w' => ∃ b : Nat, e = .returned (.tuple #[.slice (some ⟨b, 0, none⟩) n n, .int .i64 0]) ∧ w.heap.size ≤ b ∧ Rws w' b n (tp f) ∧ Below w.heap.size w w' := by
  have HT := hidden hT
  have HB := hidden hB
  have HP := hidden hP
  clear hP
  have nn0 : ¬ (n : Int) < 0 := by omega
  have nn1 : ¬ (4096 : Int) < (n : Int) := by omega
  have nn2 : (0 : Int) ≤ (n : Int) := by omega
  have w64 : IntKind.i64.wrap (64 * (n : Int)) = 64 * (n : Int) := IntWalk.i64_in _ (by omega)
  have ll : ¬ (len : Int) < 64 * (n : Int) := by omega
  obtain ⟨i0, hi, hz0, hz1, hz2⟩ := info_parts sinfo
  have hmk := fun w => run_make (P := Tryd.prog) w 28 27 i0 (.agg #[.int .u64 0, .int .u64 0, .int .u64 0, .int .u64 0]) (by kernel_rfl) hi hz0 .i64 .i64 (n : Int) (n : Int) (by omega) (Int.le_refl _) (by rw [hz2]; omega) (by omega)
  simp only [Int.toNat_natCast, hz1] at hmk
  have HL := hidden hl
  have HN := hidden hn
  have HLEN := hidden hlen
  have HCAP := hidden hcap
  clear hT hB hi hz0 hz1 hz2 hl hn hlen hcap
  go_enter Tryd.func15, Tryd.ntmps15
  go_upto_region 5 with fail
  go_cut [6] (fun vx wx => ∃ b : Nat, vx = .slice (some ⟨b, 0, none⟩) n n ∧ w.heap.size ≤ b ∧ Rws wx b n (fun _ => zero4) ∧ Below w.heap.size w wx)
  case first =>
    have R0 := hidden (Rws.made w n 27)
    have B0 := hidden (bl_alloc w (.cells (madeCells #[.int .u64 0, .int .u64 0, .int .u64 0, .int .u64 0] (n * 4)) 27))
    go_wp2_with fail
    go_meet
    exact ⟨_, rfl, Nat.le_refl _, R0.out, B0.out⟩
  case rest =>
  obtain ⟨b, rfl, hb, r0, b0⟩ := hcut
  have R0 := hidden r0
  have B0 := hidden b0
  clear r0 b0 hmk w64 ll nn0 nn1
  go_wp2_with fail
  go_loopw [22] (fun iv w' => ∃ i : Nat, i ≤ n ∧ iv = .int .i64 i ∧ Hid (Rws w' b n (fun j => if j < i then tp f j else zero4)) ∧ Hid (Below w.heap.size w w')) (fun i _ => n - (intOf i).toNat)
  case atStart => exact ⟨0, by omega, rfl, hidden (R0.out.congr (fun j _ => by rw [if_neg (by omega)])), B0⟩
  case round =>
    clear R0 B0
    obtain ⟨i, hi, rfl, hr, hbl⟩ := hrel
    by_cases hin : i < n
    · obtain rfl := HP.out (by omega)
      have ii0 : (0 : Int) ≤ (i : Int) := by omega
      have ii1 : (i : Int) < (n : Int) := by omega
      have hn := HN.out
      have hl := HL.out
      have hlen := HLEN.out
      have hcap := HCAP.out
      have v1 : IntKind.i64.wrap (64 * (i : Int)) = 64 * (i : Int) := IntWalk.i64_in _ (by omega)
      have v2 : IntKind.i64.wrap ((i : Int) + 1) = (i : Int) + 1 := IntWalk.i64_in _ (by omega)
      have v3 : IntKind.i64.wrap (64 * ((i : Int) + 1)) = 64 * ((i : Int) + 1) := IntWalk.i64_in _ (by omega)
      have s0 : (0 : Int) ≤ 64 * (i : Int) := by omega
      have s1 : 64 * (i : Int) ≤ 64 * ((i : Int) + 1) := by omega
      have s2 : 64 * ((i : Int) + 1) ≤ (cap : Int) := by omega
      have s3 : (64 * (i : Int)).toNat = 64 * i := by omega
      have s4 : (64 * ((i : Int) + 1)).toNat = 64 * i + 64 := by omega
      have s5 : (64 * ((i : Int) + 1) - 64 * (i : Int)).toNat = 64 := by omega
      have s6 : ((cap : Int) - 64 * (i : Int)).toNat = cap - 64 * i := by omega
      have hBs := (HB.out (by omega)).keep hbl.out
      obtain ⟨zs, hzs⟩ : ∃ zs, b32 f (64 * i) = zs := ⟨_, rfl⟩
      obtain ⟨ys, hys⟩ : ∃ ys, b32 f (64 * i + 32) = ys := ⟨_, rfl⟩
      have lz : zs.length = 32 := by rw [← hzs]; exact b32_len _ _
      have ly : ys.length = 32 := by rw [← hys]; exact b32_len _ _
      have hz := b32_in hBs (64 * i) (by omega)
      have hy := b32_in hBs (64 * i + 32) (by omega)
      have hra := b64_range hBs (64 * i) (by omega)
      have htp : tp f i = lst (num zs + num ys * R) := by unfold tp; rw [hzs, hys]
      rw [hzs, hys] at hra
      rw [hzs] at hz
      rw [hys] at hy
      obtain ⟨X, hX⟩ : ∃ X, tp f i = X := ⟨_, rfl⟩
      have wd := hidden (fun w T => fix (Wide_any zs ys w T lz hz ly hy) (htp.symm.trans hX))
      have ra : ∀ w0 : World, (Instr.arrayAt 64 (.slice (some ⟨sb, so + 64 * i, none⟩) 64 (cap - 64 * i))).run Tryd.prog w0 = .ok (.pointer (some ⟨sb, so + 64 * i, none⟩)) w0 := fun w0 => run_arrayAt (w := w0) (by kernel_rfl : Tryd.prog.underlying 64 = some (.array 64 5)) (Nat.le_refl _)
      have hlc : ((zs ++ ys).map fun z => Value.int .u8 z).length = 64 := by simp [lz, ly]
      have hi2 : (Tryd.prog.info? 64).map (·.size) = some ((zs ++ ys).map fun z => Value.int .u8 z).length := by rw [hlc]; kernel_rfl
      have hu : Tryd.prog.underlying 64 = some (.array 64 5) := by kernel_rfl
      unfold bv at wd
      generalize (zs ++ ys).map (fun z => Value.int .u8 z) = cs at *
      have HRA := hidden hra
      have HI := hidden hi2
      have HU := hidden hu
      have TB := hidden (HT.out.keep hbl.out)
      have NX := hidden (fun (wx : World) (hb2 : Below wr.heap.size wr wx) => (⟨((hr.out.keep hb2).at i hin X).congr (f := fun j => if j < i + 1 then tp f j else zero4) (fun j _ => by
          by_cases hj : j = i
          · subst hj
            rw [if_pos rfl, if_pos (by omega), hX]
          · rw [if_neg hj]
            by_cases hlt : j < i
            · rw [if_pos hlt, if_pos (by omega)]
            · rw [if_neg hlt, if_neg (by omega)]), setS_below wx b (i * 4) X (bl_trans hbl.out hb2) hb, (hr.out.keep hb2)⟩ : Rws (setS wx b (i * 4) X) b n (fun j => if j < i + 1 then tp f j else zero4) ∧ Below w.heap.size w (setS wx b (i * 4) X) ∧ Rws wx b n (fun j => if j < i then tp f j else zero4)))
      simp only [E4.v] at wd
      unfold setS at NX
      clear hn hl hlen hcap hr hbl hBs hzs hys lz ly hz hy hra htp hX hlc hi2 hu
      go_upto_region 9 with fail
      go_wp2_with (refine wpList_load_mid rfl 64 _ rfl sb (so + 64 * i) (by rfl) cs _ HRA.out HU.out rfl HI.out ?_)
      refine (wd.out _ TB.out).mono ?_
      rintro e wz ⟨rfl, hb2⟩
      obtain ⟨n1, n2, n3⟩ := NX.out _ hb2
      have a0 := n3.c0 i hin
      have a1 := n3.c1 i hin
      have a2 := n3.c2 i hin
      have a3 := n3.c3 i hin
      have f0 := n3.fr (i * 4) (by omega)
      have f1 := n3.fr (i * 4 + 1) (by omega)
      have f2 := n3.fr (i * 4 + 2) (by omega)
      have f3 := n3.fr (i * 4 + 3) (by omega)
      rw [if_neg (by omega)] at a0 a1 a2 a3
      have N1 := hidden n1
      have N2 := hidden n2
      clear n1 n2 n3 NX hb2 wd ra HRA HI HU TB
      go_wp2_with fail
      go_roundw
      case rel => exact ⟨i + 1, by omega, by go_num, N1, N2⟩
      case measure => simp [intOf]; omega
    · have hii : i = n := by omega
      subst hii
      have R3 := hidden (hr.out.congr (g := fun j => if j < i then tp f j else zero4) (f := tp f) (fun j hj => by rw [if_pos hj]))
      have lq : ¬ (i : Int) < (i : Int) := by omega
      clear hr
      go_wp2_with fail
      refine bodyPost_ret (v := .tuple #[.slice (some ⟨b, 0, none⟩) i i, .int .i64 0]) (by simp [results, Tryd.results15, go_sem]) rfl ⟨b, rfl, hb, R3.out, hbl.out⟩
end Go.Proofs.YtpblcnefihhhoaaDoor
