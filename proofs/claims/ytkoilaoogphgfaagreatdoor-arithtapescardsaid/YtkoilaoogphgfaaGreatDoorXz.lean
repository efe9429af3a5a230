import Derived.Test.YtkoilaoogphgfaaGreatDoorSy
import Derived.Test.YtkoilaoogphgfaaGreatDoorSwi
import Derived.Laws.MakeOwn
import Derived.Test.YtkoilaoogphgfaaGreatDoorRz
import Derived.Test.YtkoilaoogphgfaaGreatDoorSde
namespace Go.Proofs.YtkoilaoogphgfaaGreatDoor
open Go.RowKit
theorem made4 (n j : Nat) (hj : j < n * 4) : (madeCells #[.int .u64 0, .int .u64 0, .int .u64 0, .int .u64 0] (n * 4))[j]? = some (.int .u64 0) := by
 have h4 : j % 4 = 0 ∨ j % 4 = 1 ∨ j % 4 = 2 ∨ j % 4 = 3 := by omega
 simp only [madeCells]
 rw [Array.getElem?_map, Array.getElem?_range]
 rw [if_pos hj]
 rcases h4 with h | h | h | h <;> simp [h]
theorem Rws.made (w : World) (n : Nat) (t : TypeId) : Rws (w.alloc (.cells (madeCells #[.int .u64 0, .int .u64 0, .int .u64 0, .int .u64 0] (n * 4)) t)) w.heap.size n (fun _ => zero4) := by
 have hc : ∀ j, j < n * 4 → (w.alloc (.cells (madeCells #[.int .u64 0, .int .u64 0, .int .u64 0, .int .u64 0] (n * 4)) t)).cell? ⟨w.heap.size, j, none⟩ = some (.int .u64 0) := fun j hj => by
  rw [cell_of_row (w.alloc (.cells (madeCells #[.int .u64 0, .int .u64 0, .int .u64 0, .int .u64 0] (n * 4)) t)) w.heap.size j (madeCells #[.int .u64 0, .int .u64 0, .int .u64 0, .int .u64 0] (n * 4)) t (0, 0) (heap_alloc_new w _)]
  exact made4 n j hj
 exact ⟨fun k hk => hc _ (by omega), fun k hk => hc _ (by omega), fun k hk => hc _ (by omega), fun k hk => hc _ (by omega), fun k hk => by go_simp, by simp⟩
def b32 (f : Nat → Int) (o : Nat) : List Int := (List.range 32).map fun j => f (o + j)
theorem b32_len (f : Nat → Int) (o : Nat) : (b32 f o).length = 32 := by simp [b32]
def tp (f : Nat → Int) (i : Nat) : E4 := lst (num (b32 f (64 * i)) + num (b32 f (64 * i + 32)) * R)
structure Bs (w : World) (b o n : Nat) (f : Nat → Int) : Prop where
 c : ∀ j, j < n → w.cell? ⟨b, o + j, none⟩ = some (.int .u8 (f j))
 r : ∀ j, j < n → 0 ≤ f j ∧ f j ≤ 255
theorem Bs.keep {w1 w2 : World} {b o n : Nat} {f : Nat → Int} (h : Bs w1 b o n f) (hb : Below w1.heap.size w1 w2) : Bs w2 b o n f := ⟨fun j hj => cell_keep (h.c j hj) hb, h.r⟩
theorem b32_in {w : World} {b o n : Nat} {f : Nat → Int} (h : Bs w b o n f) (p : Nat) (hp : p + 32 ≤ n) : ∀ z ∈ b32 f p, 0 ≤ z ∧ z ≤ 255 := fun z hz => by
 obtain ⟨j, hj, rfl⟩ := List.mem_map.1 hz
 have := List.mem_range.1 hj
 exact h.r _ (by omega)
theorem b64_range {w : World} {b o n : Nat} {f : Nat → Int} (h : Bs w b o n f) (p : Nat) (hp : p + 64 ≤ n) : w.rangeAt b (o + p) ((b32 f p ++ b32 f (p + 32)).map fun z => Value.int .u8 z) := fun j v hv => by
 have hj : j < 64 := by
  obtain ⟨h1, _⟩ := List.getElem?_eq_some_iff.1 hv
  simpa [b32] using h1
 rw [Nat.add_assoc, h.c (p + j) (by omega), ← hv]
 by_cases h32 : j < 32
 ·simp [b32, h32, List.getElem?_append_left]
 ·rw [List.getElem?_map, List.getElem?_append_right (by rw [b32_len]; omega), b32_len]
  simp [b32, show j - 32 < 32 by omega, show p + 32 + (j - 32) = p + j by omega]
set_option maxRecDepth 100000 in
set_option maxHeartbeats 16000000 in
theorem Tape_in (P : Option Addr) (sb so len cap n : Nat) (f : Nat → Int) (w : World) (hP : 0 < n → P = some ⟨sb, so, none⟩) (hT : Tb w) (hn : n ≤ 4096) (hl : 64 * n ≤ len) (hlen : len < 9223372036854775807) (hcap : len ≤ cap) (hB : 0 < n → Bs w sb so len f) :
  Calls Tryz.prog 19 #[.slice P len cap, .int .i64 n] w fun e w' => ∃ b : Nat, e = .returned (.tuple #[.slice (some ⟨b, 0, none⟩) n n, .int .i64 0]) ∧ w.heap.size ≤ b ∧ Rws w' b n (tp f) ∧ Below w.heap.size w w' := by
 have HT := hidden hT
 have HB := hidden hB
 have HP := hidden hP
 clear hP
 have nn0 : ¬ (n : Int) < 0 := by omega
 have nn1 : ¬ (4096 : Int) < (n : Int) := by omega
 have nn2 : (0 : Int) ≤ (n : Int) := by omega
 have w64 : IntKind.i64.wrap (64 * (n : Int)) = 64 * (n : Int) := IntWalk.i64_in _ (by omega)
 have ll : ¬ (len : Int) < 64 * (n : Int) := by omega
 obtain ⟨i0, hi, hz0, hz1, hz2⟩ := info_parts sinfo
 have hmk := fun w => run_make (P := Tryz.prog) w 33 32 i0 (.agg #[.int .u64 0, .int .u64 0, .int .u64 0, .int .u64 0]) (by kernel_rfl) hi hz0 .i64 .i64 (n : Int) (n : Int) (by omega) (Int.le_refl _) (by rw [hz2]; omega) (by omega)
 simp only [Int.toNat_natCast, hz1] at hmk
 have HL := hidden hl
 have HN := hidden hn
 have HLEN := hidden hlen
 have HCAP := hidden hcap
 clear hT hB hi hz0 hz1 hz2 hl hn hlen hcap
 go_enter Tryz.func19, Tryz.ntmps19
 go_upto_region 5 with fail
 go_cut [6] (fun vx wx => ∃ b : Nat, vx = .slice (some ⟨b, 0, none⟩) n n ∧ w.heap.size ≤ b ∧ Rws wx b n (fun _ => zero4) ∧ Below w.heap.size w wx)
 case first =>
  have R0 := hidden (Rws.made w n 32)
  have B0 := hidden (bl_alloc w (.cells (madeCells #[.int .u64 0, .int .u64 0, .int .u64 0, .int .u64 0] (n * 4)) 32))
  go_wp2_with fail
  go_meet
  exact ⟨_, rfl, Nat.le_refl _, R0.out, B0.out⟩
 case rest =>
 obtain ⟨b, rfl, hb, r0, b0⟩ := hcut
 have R0 := hidden r0
 have B0 := hidden b0
 clear r0 b0 hmk w64 ll nn0 nn1
 go_wp2_with fail
 go_loopw [22] (fun iv w' => ∃ i : Nat, i ≤ n ∧ iv = .int .i64 i ∧ Hid (Rws w' b n (fun j => if j < i then tp f j else zero4)) ∧ Hid (Below w.heap.size w w')) (fun i _ => n - (intOf i).toNat)
 case atStart => exact ⟨0, by omega, rfl, hidden (R0.out.congr (fun j _ => by rw [if_neg (by omega)])), B0⟩
 case round =>
  clear R0 B0
  obtain ⟨i, hi, rfl, hr, hbl⟩ := hrel
  by_cases hin : i < n
  ·obtain rfl := HP.out (by omega)
   have ii0 : (0 : Int) ≤ (i : Int) := by omega
   have ii1 : (i : Int) < (n : Int) := by omega
   have hn := HN.out
   have hl := HL.out
   have hlen := HLEN.out
   have hcap := HCAP.out
   have v1 : IntKind.i64.wrap (64 * (i : Int)) = 64 * (i : Int) := IntWalk.i64_in _ (by omega)
   have v2 : IntKind.i64.wrap ((i : Int) + 1) = (i : Int) + 1 := IntWalk.i64_in _ (by omega)
   have v3 : IntKind.i64.wrap (64 * ((i : Int) + 1)) = 64 * ((i : Int) + 1) := IntWalk.i64_in _ (by omega)
   have s0 : (0 : Int) ≤ 64 * (i : Int) := by omega
   have s1 : 64 * (i : Int) ≤ 64 * ((i : Int) + 1) := by omega
   have s2 : 64 * ((i : Int) + 1) ≤ (cap : Int) := by omega
   have s3 : (64 * (i : Int)).toNat = 64 * i := by omega
   have s4 : (64 * ((i : Int) + 1)).toNat = 64 * i + 64 := by omega
   have s5 : (64 * ((i : Int) + 1) - 64 * (i : Int)).toNat = 64 := by omega
   have s6 : ((cap : Int) - 64 * (i : Int)).toNat = cap - 64 * i := by omega
   have hBs := (HB.out (by omega)).keep hbl.out
   obtain ⟨zs, hzs⟩ : ∃ zs, b32 f (64 * i) = zs := ⟨_, rfl⟩
   obtain ⟨ys, hys⟩ : ∃ ys, b32 f (64 * i + 32) = ys := ⟨_, rfl⟩
   have lz : zs.length = 32 := by rw [← hzs]; exact b32_len _ _
   have ly : ys.length = 32 := by rw [← hys]; exact b32_len _ _
   have hz := b32_in hBs (64 * i) (by omega)
   have hy := b32_in hBs (64 * i + 32) (by omega)
   have hra := b64_range hBs (64 * i) (by omega)
   have htp : tp f i = lst (num zs + num ys * R) := by unfold tp; rw [hzs, hys]
   rw [hzs, hys] at hra
   rw [hzs] at hz
   rw [hys] at hy
   obtain ⟨X, hX⟩ : ∃ X, tp f i = X := ⟨_, rfl⟩
   have wd := hidden (fun w T => fix (Wide_any zs ys w T lz hz ly hy) (htp.symm.trans hX))
   have ra : ∀ w0 : World, (Instr.arrayAt 106 (.slice (some ⟨sb, so + 64 * i, none⟩) 64 (cap - 64 * i))).run Tryz.prog w0 = .ok (.pointer (some ⟨sb, so + 64 * i, none⟩)) w0 := fun w0 => run_arrayAt (w := w0) (by kernel_rfl : Tryz.prog.underlying 106 = some (.array 64 5)) (Nat.le_refl _)
   have hlc : ((zs ++ ys).map fun z => Value.int .u8 z).length = 64 := by simp [lz, ly]
   have hi2 : (Tryz.prog.info? 106).map (·.size) = some ((zs ++ ys).map fun z => Value.int .u8 z).length := by rw [hlc]; kernel_rfl
   have hu : Tryz.prog.underlying 106 = some (.array 64 5) := by kernel_rfl
   unfold bv at wd
   generalize (zs ++ ys).map (fun z => Value.int .u8 z) = cs at *
   have HRA := hidden hra
   have HI := hidden hi2
   have HU := hidden hu
   have TB := hidden (HT.out.keep hbl.out)
   have NX := hidden (fun (wx : World) (hb2 : Below wr.heap.size wr wx) => (⟨((hr.out.keep hb2).at i hin X).congr (f := fun j => if j < i + 1 then tp f j else zero4) (fun j _ => by
     by_cases hj : j = i
     ·subst hj
      rw [if_pos rfl, if_pos (by omega), hX]
     ·rw [if_neg hj]
      by_cases hlt : j < i
      ·rw [if_pos hlt, if_pos (by omega)]
      ·rw [if_neg hlt, if_neg (by omega)]), setS_below wx b (i * 4) X (bl_trans hbl.out hb2) hb, (hr.out.keep hb2)⟩ : Rws (setS wx b (i * 4) X) b n (fun j => if j < i + 1 then tp f j else zero4) ∧ Below w.heap.size w (setS wx b (i * 4) X) ∧ Rws wx b n (fun j => if j < i then tp f j else zero4)))
   simp only [E4.v] at wd
   unfold setS at NX
   clear hn hl hlen hcap hr hbl hBs hzs hys lz ly hz hy hra htp hX hlc hi2 hu
   go_upto_region 9 with fail
   go_wp2_with (refine wpList_load_mid rfl 106 _ rfl sb (so + 64 * i) (by rfl) cs _ HRA.out HU.out rfl HI.out ?_)
   refine (wd.out _ TB.out).mono ?_
   rintro e wz ⟨rfl, hb2⟩
   obtain ⟨n1, n2, n3⟩ := NX.out _ hb2
   have a0 := n3.c0 i hin
   have a1 := n3.c1 i hin
   have a2 := n3.c2 i hin
   have a3 := n3.c3 i hin
   have f0 := n3.fr (i * 4) (by omega)
   have f1 := n3.fr (i * 4 + 1) (by omega)
   have f2 := n3.fr (i * 4 + 2) (by omega)
   have f3 := n3.fr (i * 4 + 3) (by omega)
   rw [if_neg (by omega)] at a0 a1 a2 a3
   have N1 := hidden n1
   have N2 := hidden n2
   clear n1 n2 n3 NX hb2 wd ra HRA HI HU TB
   go_wp2_with fail
   go_roundw
   case rel => exact ⟨i + 1, by omega, by go_num, N1, N2⟩
   case measure => simp [intOf]; omega
  ·have hii : i = n := by omega
   subst hii
   have R3 := hidden (hr.out.congr (g := fun j => if j < i then tp f j else zero4) (f := tp f) (fun j hj => by rw [if_pos hj]))
   have lq : ¬ (i : Int) < (i : Int) := by omega
   clear hr
   go_wp2_with fail
   refine bodyPost_ret (v := .tuple #[.slice (some ⟨b, 0, none⟩) i i, .int .i64 0]) (by simp [results, Tryz.results19, go_sem]) rfl ⟨b, rfl, hb, R3.out, hbl.out⟩
end Go.Proofs.YtkoilaoogphgfaaGreatDoor
namespace Go.Proofs.YtkoilaoogphgfaaGreatDoor
open Go.RowKit
def pairs : List Int → List Int
 | a :: b :: l => (a + b * 256) :: pairs l
 | _ => []
theorem pairs_take : ∀ (k : Nat) (zs : List Int), 2 * k + 1 < zs.length → pairs (zs.take (2 * k + 2)) = pairs (zs.take (2 * k)) ++ [zs.getD (2 * k) 0 + zs.getD (2 * k + 1) 0 * 256]
 | 0, a :: b :: l, _ => by simp [pairs]
 | k + 1, a :: b :: l, h => by
  have ih := pairs_take k l (by simp at h; omega)
  rw [show 2 * (k + 1) = 2 * k + 1 + 1 by omega]
  simp only [List.take_succ_cons, pairs, List.cons_append, List.getD_cons_succ]
  rw [ih]
theorem pairs_len : ∀ (k : Nat) (zs : List Int), 2 * k ≤ zs.length → (pairs (zs.take (2 * k))).length = k
 | 0, _, _ => by simp [pairs]
 | k + 1, a :: b :: l, h => by
  have ih := pairs_len k l (by simp at h; omega)
  rw [show 2 * (k + 1) = 2 * k + 1 + 1 by omega]
  simp [pairs, ih]
theorem pairs_num : ∀ (k : Nat) (zs : List Int), zs.length = 2 * k → (∀ z ∈ zs, 0 ≤ z ∧ z ≤ 255) → wn (pairs zs) = num zs
 | 0, [], _, _ => by simp [pairs, wn, num]
 | k + 1, a :: b :: l, h, hz => by
  have ih := pairs_num k l (by simp at h; omega) (fun z hz' => hz z (by simp [hz']))
  have ha := hz a (by simp)
  have hb := hz b (by simp)
  simp only [pairs, wn, num, ih]
  omega
theorem pairs_in (k : Nat) (zs : List Int) (h : zs.length = 2 * k) (hz : ∀ z ∈ zs, 0 ≤ z ∧ z ≤ 255) : ∀ x ∈ pairs zs, 0 ≤ x ∧ x < 65536 := by
 induction k generalizing zs with
 | zero => match zs, h with
  | [], _ => simp [pairs]
 | succ k ih => match zs, h with
  | a :: b :: l, h =>
   have ha := hz a (by simp)
   have hb := hz b (by simp)
   intro x hx
   simp only [pairs, List.mem_cons] at hx
   rcases hx with rfl | hx
   ·omega
   ·exact ih l (by simp at h; omega) (fun z hz' => hz z (by simp [hz'])) x hx
set_option maxRecDepth 100000 in
set_option maxHeartbeats 8000000 in
theorem rWide_any (zs : List Int) (w : World) (lz : zs.length = 64) (hz : ∀ z ∈ zs, 0 ≤ z ∧ z ≤ 255) :
  Calls Tryz.prog 34 #[bv zs] w fun e w' => ∃ t : E4, e = .returned t.v ∧ t.is (num zs) ∧ Below w.heap.size w w' := by
 have LZ := hidden lz
 have HZ := hidden hz
 have RN := hidden (range_new w zs 106)
 have hget : ∀ k, k < 64 → (zs.map fun z => Value.int .u8 z)[k]? = some (.int .u8 (zs.getD k 0)) ∧ 0 ≤ zs.getD k 0 ∧ zs.getD k 0 ≤ 255 := fun k hk => by
  have hk2 : k < zs.length := by omega
  have e1 : zs.getD k 0 = zs[k] := by simp [List.getD, hk2]
  rw [e1]
  exact ⟨by simp [hk2], hz _ (List.getElem_mem hk2)⟩
 have HG := hidden hget
 have s0 := (St.nil (w.alloc (.cells (zs.map fun z => Value.int .u8 z).toArray 106))).room 43
 simp only [World.size_alloc] at s0
 have S0 : Hid (St w [(w.heap.size + 1, zero4)] [w.heap.size + 1] _) := hidden ⟨s0.live, s0.wrt, bl_trans (bl_alloc w _) (s0.bel)⟩
 obtain ⟨i0, hi, hz0, hz1, hz2⟩ := info_parts u64info
 have HI := hidden hi
 have HZ0 := hidden hz0
 have HZ1 := hidden hz1
 have HZ2 := hidden hz2
 clear hi hz0 hz1 hz2 hget lz hz s0
 unfold bv
 generalize (zs.map fun z => Value.int .u8 z) = cs at *
 go_enter Tryz.func34, Tryz.ntmps34
 go_wp2_with fail
 go_loopw [3, 4] (fun v i w' => ∃ k : Nat, k ≤ 32 ∧ i = .int .i64 ((2 * k : Nat) : Int) ∧ w'.ownsRow (w.heap.size + 1 + 1) 30 1 v k ((pairs (zs.take (2 * k))).map fun z => Value.int .u64 z) ∧ w.heap.size + 1 + 1 ≤ w'.heap.size ∧ w'.rangeAt w.heap.size 0 cs ∧ St w [(w.heap.size + 1, zero4)] [w.heap.size + 1] w') (fun _ i _ => 64 - (intOf i).toNat)
 case atStart => exact ⟨0, by omega, rfl, World.ownsRow_nil _ _ _ _, by simp, range_keep RN.out (bl_alloc _ _), S0.out⟩
 case round =>
  obtain ⟨k, hk, rfl, hown, hsz, hrg, hst⟩ := hrel
  clear S0 RN
  by_cases hk4 : k < 32
  ·obtain ⟨m, hm⟩ : ∃ m, 2 * k = m := ⟨_, rfl⟩
   have PT := hidden (pairs_take k zs (by rw [LZ.out]; omega))
   rw [hm] at hown ⊢
   rw [hm] at PT
   have kk0 : (0 : Int) ≤ (m : Int) := by omega
   have kk1 : (m : Int) < 63 := by omega
   obtain ⟨g0, x0, x1⟩ := HG.out m (by omega)
   obtain ⟨g1, y0, y1⟩ := HG.out (m + 1) (by omega)
   have ca := range_keep hrg ((Below.refl _ _).drew) m _ g0
   have cb := range_keep hrg ((Below.refl _ _).drew) (m + 1) _ g1
   rw [Nat.zero_add] at ca cb
   have OP := or_parts 8 (zs.getD (m + 1) 0) (zs.getD m 0) x0 (by simp only [Int.reducePow]; omega) y0 (by simp only [Int.reducePow]; omega) (by omega)
   simp only [Int.reducePow] at OP
   generalize zs.getD m 0 = x at *
   generalize zs.getD (m + 1) 0 = y at *
   have hw1 : IntKind.i64.wrap ((m : Int) + 1) = (m : Int) + 1 := IntWalk.i64_in _ (by omega)
   have hw2 : ((m : Int) + 1).toNat = m + 1 := by omega
   have hw3 : (0 : Int) ≤ (m : Int) + 1 := by omega
   have hw4 : (m : Int) + 1 < 64 := by omega
   have wx : IntKind.u64.wrap x = x := IntWalk.u64_in _ (by omega)
   have wy : IntKind.u64.wrap y = y := IntWalk.u64_in _ (by omega)
   have wz : IntKind.u64.wrap (y * 256) = y * 256 := IntWalk.u64_in _ (by omega)
   have KS : Hid (∀ o, St w [(w.heap.size + 1, zero4)] [w.heap.size + 1] (wr.alloc o).drew) := hidden (fun o => (hst.keep (bl_alloc wr o)).drew)
   have RG : Hid (∀ o, (wr.alloc o).drew.rangeAt w.heap.size 0 cs) := hidden (fun o => range_keep (range_keep hrg (bl_alloc wr o)) ((Below.refl _ _).drew))
   have OW := hidden (show wr.drew.ownsRow (w.heap.size + 1 + 1) 30 1 _ k ((pairs (zs.take m)).map fun z => Value.int .u64 z) from hown)
   have SZ : Hid (∀ o, w.heap.size + 1 + 1 ≤ (wr.alloc o).drew.heap.size) := hidden (fun o => by have : (wr.alloc o).drew.heap.size = wr.heap.size + 1 := World.size_alloc wr o; omega)
   have HM := hidden hm
   clear hown hsz hst hrg g0 g1 hm
   go_upto_region 5 with fail
   go_region_law (refine step_append_own rfl (.tmp 9) (.tmp 21) 112 rfl (w.heap.size + 1 + 1) 30 i0 (.int .u64 0) 1 8 Tryz.underlying112 HI.out HZ0.out HZ1.out HZ2.out rfl (by decide) _ _ _ (by simp [Act.eval]) (OW.out.alloc _) ⟨wr.drew.heap.size, 0, none⟩ 1 1 [.int .u64 (x + y * 256)] (by simp [Act.eval]) rfl (cells_new wr.drew _ _) (by simp [Value.oneCell']) (by unfold maxLen; omega) (by omega) (SZ.out _) ?_; intro vn wz hown hgr)
   all_goals
    have S2 := hidden ((KS.out _).grown hgr (fun g hg => by have := (OW.out.lt g hg).1; simp; omega))
    have Z2 := hidden (Nat.le_trans (SZ.out _) hgr.size)
    have R2 : Hid (wz.rangeAt w.heap.size 0 cs) := hidden (fun j v hv => hgr.cell (RG.out _ j v hv) (fun e => by have := (OW.out.lt _ e.symm).1; simp at this; omega))
    have O2 := hidden hown
    clear hown hgr
    go_wp2_with fail
    go_roundw
    case rel => exact ⟨k + 1, by omega, by rw [← HM.out]; go_num, by rw [show 2 * (k + 1) = m + 2 by rw [← HM.out]; omega, PT.out, List.map_append]; exact O2.out, Z2.out, R2.out, S2.out⟩
    case measure => simp [intOf]; omega
  ·have hkk : k = 32 := by omega
   subst hkk
   have e64 : zs.take (2 * 32) = zs := List.take_of_length_le (by rw [LZ.out]; omega)
   rw [e64] at hown
   have pl : (pairs zs).length = 32 := by have := pairs_len 32 zs (by rw [LZ.out]; omega); rw [e64] at this; exact this
   have PN := hidden (pairs_num 32 zs LZ.out HZ.out)
   have PI := pairs_in 32 zs LZ.out HZ.out
   rcases hown.2 with ⟨_, h0⟩ | ⟨g, cap, cur, rfl, hg, hblk, hnc, hcm, hcs, htake⟩
   ·omega
   have WA := hidden (words_any g 32 cap (pairs zs) wr pl (by omega) (fun j hj => by
    have hj2 : j < (pairs zs).length := by rw [pl]; omega
    have e1 : (pairs zs).getD j 0 = (pairs zs)[j] := by simp [List.getD, hj2]
    have hc := hown.cells (g := g) rfl j (.int .u64 ((pairs zs).getD j 0)) (by simp [hj2])
    have hadd : (⟨g, 0, none⟩ : Addr).add j = ⟨g, j, none⟩ := by unfold Addr.add; split <;> simp_all
    rw [hadd] at hc
    exact ⟨hc, by rw [e1]; exact PI _ (List.getElem_mem hj2)⟩))
   have ST := hidden hst
   clear hown hst hblk hcs htake hnc hcm hrg e64 pl PI
   rw [show ((2 * 32 : Nat) : Int) = 64 from rfl]
   go_wp2_with fail
   refine WA.out.mono ?_
   rintro e w2 ⟨t, rfl, ht, hb⟩
   have S2 := ST.out.keep hb
   have z0 := (S2.live (w.heap.size + 1, zero4) (by simp)).c0
   have z1 := (S2.live (w.heap.size + 1, zero4) (by simp)).c1
   have z2 := (S2.live (w.heap.size + 1, zero4) (by simp)).c2
   have z3 := (S2.live (w.heap.size + 1, zero4) (by simp)).c3
   obtain ⟨f0, f1, f2, f3⟩ := (S2.wrt (w.heap.size + 1) (by simp)).1
   have S3 := hidden S2
   have HT := hidden ht
   clear S2 ht hb
   simp only [E4.v]
   go_wp2_with fail
   refine bodyPost_ret (v := .agg #[.int .u64 t.x0, .int .u64 t.x1, .int .u64 t.x2, .int .u64 t.x3]) (by simp [results, Tryz.results34, go_sem, z0, z1, z2, z3]) rfl ⟨t, rfl, by rw [← PN.out]; exact HT.out, ?_⟩
   exact set4_below _ _ _ S3.out.bel (by omega)
end Go.Proofs.YtkoilaoogphgfaaGreatDoor
namespace Go.Proofs.YtkoilaoogphgfaaGreatDoor
open Go.RowKit
theorem num_appT : ∀ (us vs : List Int), num (us ++ vs) = num us + 256 ^ us.length * num vs
 | [], vs => by simp [num]
 | u :: us, vs => by
  simp only [List.cons_append, num, num_appT us vs, List.length_cons, Nat.pow_succ]
  rw [Nat.mul_add]
  generalize 256 ^ us.length = P
  rw [show P * 256 * num vs = 256 * (P * num vs) by rw [Nat.mul_comm P, Nat.mul_assoc]]
  omega
def b64 (f : Nat → Int) (o : Nat) : List Int := b32 f o ++ b32 f (o + 32)
theorem b64_len (f : Nat → Int) (o : Nat) : (b64 f o).length = 64 := by simp [b64, b32_len]
theorem tp_64 (f : Nat → Int) (i : Nat) : tp f i = lst (num (b64 f (64 * i))) := by
 unfold tp b64
 rw [num_appT, b32_len]
 rw [Int.natCast_add, Int.natCast_mul, Int.mul_comm ((256 ^ 32 : Nat) : Int)]
 rfl
theorem refinfo : (Tryz.prog.info? 43).map (fun i => (i.zero, i.size, i.bytes)) = some (some (.agg #[.int .u64 0, .int .u64 0, .int .u64 0, .int .u64 0]), 4, 32) := by kernel_rfl
structure Rb (w : World) (b : Nat) (g : Nat → Int) : Prop where
 c : ∀ j, j < 64 → w.cell? ⟨b, j, none⟩ = some (.int .u8 (g j))
 fr : ∀ j, j < 64 → w.frozen? ⟨b, j, none⟩ = false
theorem Rb.at {w : World} {b : Nat} {g : Nat → Int} (h : Rb w b g) (k : Nat) (hk : k < 64) (v : Int) : Rb (w.setCell ⟨b, k, none⟩ (.int .u8 v)) b (fun j => if j = k then v else g j) := by
 refine ⟨fun j hj => ?_, fun j hj => by have := h.fr j hj; go_simp⟩
 by_cases hjk : j = k
 ·subst hjk
  have hb := h.c j hj
  rw [if_pos rfl]
  go_simp
 ·rw [World.cell?_setCell_other w _ _ _ (by intro e; exact hjk (congrArg Addr.off e).symm), h.c j hj, if_neg hjk]
theorem Rb.new (w : World) (t : TypeId) : Rb (w.alloc (.cells #[.int .u8 0, .int .u8 0, .int .u8 0, .int .u8 0, .int .u8 0, .int .u8 0, .int .u8 0, .int .u8 0, .int .u8 0, .int .u8 0, .int .u8 0, .int .u8 0, .int .u8 0, .int .u8 0, .int .u8 0, .int .u8 0, .int .u8 0, .int .u8 0, .int .u8 0, .int .u8 0, .int .u8 0, .int .u8 0, .int .u8 0, .int .u8 0, .int .u8 0, .int .u8 0, .int .u8 0, .int .u8 0, .int .u8 0, .int .u8 0, .int .u8 0, .int .u8 0, .int .u8 0, .int .u8 0, .int .u8 0, .int .u8 0, .int .u8 0, .int .u8 0, .int .u8 0, .int .u8 0, .int .u8 0, .int .u8 0, .int .u8 0, .int .u8 0, .int .u8 0, .int .u8 0, .int .u8 0, .int .u8 0, .int .u8 0, .int .u8 0, .int .u8 0, .int .u8 0, .int .u8 0, .int .u8 0, .int .u8 0, .int .u8 0, .int .u8 0, .int .u8 0, .int .u8 0, .int .u8 0, .int .u8 0, .int .u8 0, .int .u8 0, .int .u8 0] t)) w.heap.size (fun _ => 0) := by
 have eZ : (#[.int .u8 0, .int .u8 0, .int .u8 0, .int .u8 0, .int .u8 0, .int .u8 0, .int .u8 0, .int .u8 0, .int .u8 0, .int .u8 0, .int .u8 0, .int .u8 0, .int .u8 0, .int .u8 0, .int .u8 0, .int .u8 0, .int .u8 0, .int .u8 0, .int .u8 0, .int .u8 0, .int .u8 0, .int .u8 0, .int .u8 0, .int .u8 0, .int .u8 0, .int .u8 0, .int .u8 0, .int .u8 0, .int .u8 0, .int .u8 0, .int .u8 0, .int .u8 0, .int .u8 0, .int .u8 0, .int .u8 0, .int .u8 0, .int .u8 0, .int .u8 0, .int .u8 0, .int .u8 0, .int .u8 0, .int .u8 0, .int .u8 0, .int .u8 0, .int .u8 0, .int .u8 0, .int .u8 0, .int .u8 0, .int .u8 0, .int .u8 0, .int .u8 0, .int .u8 0, .int .u8 0, .int .u8 0, .int .u8 0, .int .u8 0, .int .u8 0, .int .u8 0, .int .u8 0, .int .u8 0, .int .u8 0, .int .u8 0, .int .u8 0, .int .u8 0] : Array Value) = madeCells #[.int .u8 0] 64 := by
  apply Array.ext'
  rw [toList_madeCells_one]
  rfl
 rw [eZ]
 have h := World.rowIs_made w (.int .u8 0) 64 t
 exact ⟨fun j hj => h.cell hj, fun j hj => h.frozen j⟩
theorem Rb.range {w : World} {b : Nat} {f : Nat → Int} {o : Nat} (h : Rb w b (fun j => f (o + j))) : w.rangeAt b 0 ((b64 f o).map fun z => Value.int .u8 z) := fun j v hv => by
 have hj : j < 64 := by
  obtain ⟨h1, _⟩ := List.getElem?_eq_some_iff.1 hv
  simpa [b64, b32] using h1
 rw [Nat.zero_add, h.c j hj, ← hv]
 by_cases h32 : j < 32
 ·simp [b64, b32, h32, List.getElem?_append_left]
 ·rw [List.getElem?_map, b64, List.getElem?_append_right (by rw [b32_len]; omega), b32_len]
  simp [b32, show j - 32 < 32 by omega, show o + 32 + (j - 32) = o + j by omega]
theorem Rws.own {w : World} {base gg n cap : Nat} {e : TypeId} {g : Nat → E4} (h : w.ownsRow base e 4 (.slice (some ⟨gg, 0, none⟩) n cap) n (svs n g)) : Rws w gg n g := by
 have hc : ∀ k, k < n * 4 → w.cell? ⟨gg, k, none⟩ = (svs n g)[k]? := fun k hk => h.cellAt k hk
 have hs : ∀ k d, k < n → d < 4 → (svs n g)[k * 4 + d]? = some ([Value.int .u64 (g k).x0, .int .u64 (g k).x1, .int .u64 (g k).x2, .int .u64 (g k).x3].getD d undef) := by
  intro k d hk hd
  clear hc h
  induction n with
  | zero => omega
  | succ n ih =>
   rw [svs_succ]
   by_cases hkn : k < n
   ·rw [List.getElem?_append_left (by rw [svs_len]; omega)]
    exact ih hkn
   ·have : k = n := by omega
    subst this
    rw [List.getElem?_append_right (by rw [svs_len]; omega), svs_len, show k * 4 + d - k * 4 = d by omega]
    obtain rfl | rfl | rfl | rfl : d = 0 ∨ d = 1 ∨ d = 2 ∨ d = 3 := by omega
    all_goals rfl
 refine ⟨fun k hk => ?_, fun k hk => ?_, fun k hk => ?_, fun k hk => ?_, fun k hk => h.frozenAt k, (h.lt gg rfl).2⟩
 ·rw [hc _ (by omega)]; exact hs k 0 hk (by omega)
 ·rw [hc _ (by omega)]; exact hs k 1 hk (by omega)
 ·rw [hc _ (by omega)]; exact hs k 2 hk (by omega)
 ·rw [hc _ (by omega)]; exact hs k 3 hk (by omega)
theorem own_keepS {w1 w2 : World} {base : Nat} {e : TypeId} {v : Value} {n : Nat} {xs : List Value} (h : w1.ownsRow base e 4 v n xs) (hb : Below w1.heap.size w1 w2) : w2.ownsRow base e 4 v n xs :=
 h.kept (row := none) ⟨hb.os, hb.tape, hb.output, hb.size, fun k hk _ => hb.block k hk⟩ (by cases v.ownBlock <;> simp)
theorem below_trans {n : Nat} {w1 w2 w3 : World} (h1 : Below n w1 w2) (h2 : Below n w2 w3) : Below n w1 w3 := ⟨h2.os.trans h1.os, h2.tape.trans h1.tape, h2.output.trans h1.output, Nat.le_trans h1.size h2.size, fun k hk => (h2.block k hk).trans (h1.block k hk)⟩
set_option maxRecDepth 100000 in
set_option maxHeartbeats 16000000 in
theorem rTape_in (P : Option Addr) (sb so len cap n : Nat) (f : Nat → Int) (w : World) (hP : 0 < n → P = some ⟨sb, so, none⟩) (hn : n ≤ 4096) (hl : 64 * n ≤ len) (hlen : len < 9223372036854775807) (hB : 0 < n → Bs w sb so len f) :
  Calls Tryz.prog 21 #[.slice P len cap, .int .i64 n] w fun e w' => ∃ (v : Value) (p : Option Addr) (c : Nat), e = .returned (.tuple #[v, .int .i64 0]) ∧ v = .slice p n c ∧ (0 < n → ∃ b : Nat, p = some ⟨b, 0, none⟩ ∧ w.heap.size ≤ b ∧ Rws w' b n (tp f)) ∧ Below w.heap.size w w' := by
 have HB := hidden hB
 have HP := hidden hP
 clear hP
 have nn0 : ¬ (n : Int) < 0 := by omega
 have nn1 : ¬ (4096 : Int) < (n : Int) := by omega
 have nn2 : (0 : Int) ≤ (n : Int) := by omega
 obtain ⟨q, hq⟩ : ∃ q, len / 64 = q := ⟨_, rfl⟩
 have dq : (len : Int).tdiv 64 = (q : Int) := by rw [Int.tdiv_eq_ediv_of_nonneg (by omega)]; omega
 have wq : IntKind.i64.wrap (q : Int) = (q : Int) := IntWalk.i64_in _ (by omega)
 have ll : ¬ (q : Int) < (n : Int) := by omega
 obtain ⟨i0, hi, hz0, hz1, hz2⟩ := info_parts refinfo
 have HI0 := hidden hi
 have HZ0 := hidden hz0
 have HZ1 := hidden hz1
 have HZ2 := hidden hz2
 have HL := hidden hl
 have HN := hidden hn
 have HLEN := hidden hlen
 clear hB hi hz0 hz1 hz2 hl hn hlen hq
 go_enter Tryz.func21, Tryz.ntmps21
 go_wp2_with fail
 clear dq wq ll nn0 nn1
 go_loopw [6, 7] (fun ov iv w' => ∃ i : Nat, i ≤ n ∧ iv = .int .i64 i ∧ Hid (w'.ownsRow w.heap.size 43 4 ov i (svs i (tp f))) ∧ Hid (Below w.heap.size w w')) (fun _ i _ => n - (intOf i).toNat)
 case atStart => exact ⟨0, by omega, rfl, hidden (World.ownsRow_nil _ _ _ _), hidden (Below.refl _ _)⟩
 case round =>
  obtain ⟨i, hi, rfl, how, hbl⟩ := hrel
  by_cases hin : i < n
  ·obtain rfl := HP.out (by omega)
   have ii0 : (0 : Int) ≤ (i : Int) := by omega
   have ii1 : (i : Int) < (n : Int) := by omega
   have BS := hidden ((HB.out (by omega)).keep hbl.out)
   have hn := HN.out
   have hl := HL.out
   have hlen := HLEN.out
   have v1 : IntKind.i64.wrap (64 * (i : Int)) = 64 * (i : Int) := IntWalk.i64_in _ (by omega)
   generalize wr = ws at *
   go_upto_region 9 with fail
   go_cut [8] (fun vx wx => ∃ pb : Nat, vx = .pointer (some ⟨pb, 0, none⟩) ∧ ws.heap.size ≤ pb ∧ Rb wx pb (fun _ => 0) ∧ Below ws.heap.size ws wx)
   case first =>
    have R0 := hidden (Rb.new ws 106)
    have B0 := hidden (bl_alloc ws (.cells #[.int .u8 0, .int .u8 0, .int .u8 0, .int .u8 0, .int .u8 0, .int .u8 0, .int .u8 0, .int .u8 0, .int .u8 0, .int .u8 0, .int .u8 0, .int .u8 0, .int .u8 0, .int .u8 0, .int .u8 0, .int .u8 0, .int .u8 0, .int .u8 0, .int .u8 0, .int .u8 0, .int .u8 0, .int .u8 0, .int .u8 0, .int .u8 0, .int .u8 0, .int .u8 0, .int .u8 0, .int .u8 0, .int .u8 0, .int .u8 0, .int .u8 0, .int .u8 0, .int .u8 0, .int .u8 0, .int .u8 0, .int .u8 0, .int .u8 0, .int .u8 0, .int .u8 0, .int .u8 0, .int .u8 0, .int .u8 0, .int .u8 0, .int .u8 0, .int .u8 0, .int .u8 0, .int .u8 0, .int .u8 0, .int .u8 0, .int .u8 0, .int .u8 0, .int .u8 0, .int .u8 0, .int .u8 0, .int .u8 0, .int .u8 0, .int .u8 0, .int .u8 0, .int .u8 0, .int .u8 0, .int .u8 0, .int .u8 0, .int .u8 0, .int .u8 0] 106))
    clear hn hl hlen
    go_wp2_with fail
    go_meet
    exact ⟨_, rfl, Nat.le_refl _, R0.out, B0.out⟩
   case rest =>
   obtain ⟨pb, rfl, hpb, r0, b0⟩ := hcut
   have R0 := hidden r0
   have B0 := hidden b0
   clear r0 b0
   have HNL : Hid (64 * i + 64 ≤ len ∧ len < 9223372036854775807) := hidden ⟨by omega, hlen⟩
   clear hn hl hlen
   go_wp2_with fail
   go_loopw [9] (fun kv w' => ∃ k : Nat, k ≤ 64 ∧ kv = .int .i64 k ∧ Hid (Rb w' pb (fun j => if j < k then f (64 * i + j) else 0)) ∧ Hid (Below ws.heap.size ws w')) (fun k _ => 64 - (intOf k).toNat)
   case atStart => exact ⟨0, by omega, rfl, hidden ⟨fun j hj => by rw [if_neg (by omega)]; exact R0.out.c j hj, R0.out.fr⟩, B0⟩
   case round =>
    clear R0 B0
    obtain ⟨k, hk, rfl, hr, hb2⟩ := hrel
    by_cases hk64 : k < 64
    ·have kk0 : (0 : Int) ≤ (k : Int) := by omega
     have kk1 : (k : Int) < 64 := by omega
     obtain ⟨nl1, nl2⟩ := HNL.out
     have v2 : IntKind.i64.wrap (64 * (i : Int) + (k : Int)) = 64 * (i : Int) + (k : Int) := IntWalk.i64_in _ (by omega)
     have s1 : (0 : Int) ≤ 64 * (i : Int) + (k : Int) := by omega
     have s2 : 64 * (i : Int) + (k : Int) < (len : Int) := by omega
     have s3 : (64 * (i : Int) + (k : Int)).toNat = 64 * i + k := by omega
     have cs := cell_keep (BS.out.c (64 * i + k) (by omega)) hb2.out
     have cr := hr.out.c k hk64
     have fr := hr.out.fr k hk64
     have NR : Hid (Rb (wr.setCell ⟨pb, k, none⟩ (.int .u8 (f (64 * i + k)))) pb (fun j => if j < k + 1 then f (64 * i + j) else 0)) := hidden ⟨fun j hj => by
      rw [(hr.out.at k hk64 (f (64 * i + k))).c j hj]
      by_cases hjk : j = k
      ·subst hjk
       rw [if_pos rfl, if_pos (by omega)]
      ·rw [if_neg hjk]
       by_cases hlt : j < k
       ·rw [if_pos hlt, if_pos (by omega)]
       ·rw [if_neg hlt, if_neg (by omega)], (hr.out.at k hk64 (f (64 * i + k))).fr⟩
     have NB : Hid (Below ws.heap.size ws (wr.setCell ⟨pb, k, none⟩ (.int .u8 (f (64 * i + k))))) := hidden (hb2.out.setCell hpb _)
     generalize f (64 * i + k) = v at *
     clear hr hb2 nl1 nl2
     go_wp2_with fail
     go_roundw
     case rel => exact ⟨k + 1, by omega, by go_num, NR, NB⟩
     case measure => simp [intOf]; omega
    ·have hkk : k = 64 := by omega
     subst hkk
     rw [show ((64 : Nat) : Int) = 64 from rfl]
     have hrb : Rb wr pb (fun j => f (64 * i + j)) := ⟨fun j hj => by rw [hr.out.c j hj, if_pos hj], hr.out.fr⟩
     have hra := hrb.range
     have nl := HNL.out
     have hz : ∀ z ∈ b64 f (64 * i), 0 ≤ z ∧ z ≤ 255 := fun z hz => by
      rcases List.mem_append.1 hz with h | h
      ·exact b32_in BS.out (64 * i) (by omega) z h
      ·exact b32_in BS.out (64 * i + 32) (by omega) z h
     obtain ⟨X, hX⟩ : ∃ X, tp f i = X := ⟨_, rfl⟩
     have wd := hidden (fun w => fix (rWide_any (b64 f (64 * i)) w (b64_len _ _) hz) ((tp_64 f i).symm.trans hX))
     have hlc : ((b64 f (64 * i)).map fun z => Value.int .u8 z).length = 64 := by simp [b64_len]
     have hi2 : (Tryz.prog.info? 106).map (·.size) = some ((b64 f (64 * i)).map fun z => Value.int .u8 z).length := by rw [hlc]; kernel_rfl
     have hu : Tryz.prog.underlying 106 = some (.array 64 5) := by kernel_rfl
     unfold bv at wd
     generalize (b64 f (64 * i)).map (fun z => Value.int .u8 z) = cs at *
     have HRA := hidden hra
     have HI := hidden hi2
     have HU := hidden hu
     have OW := hidden (own_keepS how.out hb2.out)
     have B2 := hidden (bl_trans hbl.out hb2.out)
     have SV := hidden (svs_succ i (tp f))
     rw [hX] at SV
     have n9 := HN.out
     have w9 : IntKind.i64.wrap ((i : Int) + 1) = (i : Int) + 1 := IntWalk.i64_in _ (by omega)
     have N9 := hidden (show i + 1 ≤ 4096 by omega)
     simp only [E4.v] at wd
     clear hr hb2 hrb hra nl hz hX hlc hi2 hu how hbl BS n9
     go_upto_region 14 with fail
     go_wp2_with (refine wpList_load_mid rfl 106 _ rfl pb 0 (by rfl) cs _ HRA.out HU.out rfl HI.out ?_)
     refine (wd.out _).mono ?_
     rintro e w2 ⟨rfl, hb3⟩
     have O2 := hidden (own_keepS OW.out hb3)
     have B3 := hidden (bl_trans B2.out hb3)
     have bs := B3.out.size
     clear hb3 OW B2 HRA HI HU wd
     go_wp2_with (first | (at_builtin; refine wpList_append_moreS _ rfl _ _ 44 rfl w.heap.size 43 i0 (.agg #[.int .u64 0, .int .u64 0, .int .u64 0, .int .u64 0]) 32 (by kernel_rfl) HI0.out HZ0.out HZ1.out HZ2.out rfl _ _ _ rfl (Or.inl (O2.out.alloc _)) ⟨w2.heap.size, 0, none⟩ [.int .u64 X.x0, .int .u64 X.x1, .int .u64 X.x2, .int .u64 X.x3] rfl rfl (cells_new w2 [.int .u64 X.x0, .int .u64 X.x1, .int .u64 X.x2, .int .u64 X.x3] 43) (by simp [Value.oneCell']) (by have := N9.out; unfold maxLen; omega) (by have := N9.out; omega) (by simp; omega) ?_; intro v' w3 hown hb4; have HO := hidden hown; have HB4 := hidden (bl_trans2 B3.out hb4 (by omega)); clear hown hb4))
     go_roundw
     case rel => exact ⟨i + 1, by omega, by go_num, hidden (by rw [SV.out]; exact HO.out), HB4⟩
     case measure => simp [intOf]; omega
  ·have hii : i = n := by omega
   subst hii
   have lq : ¬ (i : Int) < (i : Int) := by omega
   have RES : ∃ (p : Option Addr) (c : Nat), u6 = .slice p i c ∧ (0 < i → ∃ b : Nat, p = some ⟨b, 0, none⟩ ∧ w.heap.size ≤ b ∧ Rws wr b i (tp f)) := by
    rcases how.out.2 with ⟨h1, h2⟩ | ⟨gg, cp, cur, h1, hg, _, hnc, _, _, _⟩
    ·exact ⟨none, 0, by rw [h1, h2], fun h => by omega⟩
    ·have ho := how.out
     rw [h1] at ho
     exact ⟨_, cp, h1, fun _ => ⟨gg, rfl, hg, Rws.own ho⟩⟩
   obtain ⟨p, c, hv, hrw⟩ := RES
   have HV := hidden hv
   have HRW := hidden hrw
   clear how hv hrw
   go_wp2_with fail
   refine bodyPost_ret (v := .tuple #[u6, .int .i64 0]) (by simp [results, Tryz.results21, go_sem]) rfl ?_
   exact ⟨u6, rfl, p, ⟨c, HV.out⟩, HRW.out, hbl.out⟩
set_option maxRecDepth 100000 in
set_option maxHeartbeats 4000000 in
theorem Tape_short (p : Option Addr) (len cap n : Nat) (w : World) (hn : n ≤ 4096) (hl : len < 64 * n) :
  Calls Tryz.prog 19 #[.slice p len cap, .int .i64 n] w fun e w' => e = .returned (.tuple #[.slice none 0 0, .int .i64 5]) ∧ Below w.heap.size w w' := by
 have nn0 : ¬ (n : Int) < 0 := by omega
 have nn1 : ¬ (4096 : Int) < (n : Int) := by omega
 have w64 : IntKind.i64.wrap (64 * (n : Int)) = 64 * (n : Int) := IntWalk.i64_in _ (by omega)
 have ll : (len : Int) < 64 * (n : Int) := by omega
 clear hn hl
 go_enter Tryz.func19, Tryz.ntmps19
 go_wp2_with fail
 refine bodyPost_ret (v := .tuple #[.slice none 0 0, .int .i64 5]) (by simp [results, Tryz.results19, go_sem]) rfl ⟨rfl, Below.refl _ _⟩
set_option maxRecDepth 100000 in
set_option maxHeartbeats 4000000 in
theorem rTape_short (p : Option Addr) (len cap n : Nat) (w : World) (hn : n ≤ 4096) (hl : len < 64 * n) :
  Calls Tryz.prog 21 #[.slice p len cap, .int .i64 n] w fun e w' => e = .returned (.tuple #[.slice none 0 0, .int .i64 5]) ∧ Below w.heap.size w w' := by
 have nn0 : ¬ (n : Int) < 0 := by omega
 have nn1 : ¬ (4096 : Int) < (n : Int) := by omega
 obtain ⟨q, hq⟩ : ∃ q, len / 64 = q := ⟨_, rfl⟩
 have dq : (len : Int).tdiv 64 = (q : Int) := by rw [Int.tdiv_eq_ediv_of_nonneg (by omega)]; omega
 have wq : IntKind.i64.wrap (q : Int) = (q : Int) := IntWalk.i64_in _ (by omega)
 have ll : (q : Int) < (n : Int) := by omega
 clear hn hl hq
 go_enter Tryz.func21, Tryz.ntmps21
 go_wp2_with fail
 refine bodyPost_ret (v := .tuple #[.slice none 0 0, .int .i64 5]) (by simp [results, Tryz.results21, go_sem]) rfl ⟨rfl, Below.refl _ _⟩
end Go.Proofs.YtkoilaoogphgfaaGreatDoor
