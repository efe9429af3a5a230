import Derived.Test.YtglalahmcckjaaaDoorSnr
import Derived.Test.YtglalahmcckjaaaDoorSap
namespace Go.Proofs.YtglalahmcckjaaaDoor
open Go.RowKit

set_option maxRecDepth 100000 in
set_option maxHeartbeats 4000000 in
theorem ints_cap (p q : Nat) (n c d : Nat) (f : Nat → Int) (w : World) (hn : n < 1000000) (hp : Rwi w p n f) (hq : Rwi w q n f) :
    Calls Tryd.prog 30 #[.slice (some ⟨p, 0, none⟩) n c, .slice (some ⟨q, 0, none⟩) n d] w fun e w' => e = .returned (.bool true) ∧ Below w.heap.size w w' := by
  have HP := hidden hp
  have HQ := hidden hq
  clear hp hq
  have nn0 : (0 : Int) ≤ (n : Int) := by omega
  have nn1 : (n : Int) < 1000000 := by omega
  go_enter Tryd.func30, Tryd.ntmps30
  go_wp2_with fail
  go_loopw [5] (fun iv w' => ∃ k : Nat, k ≤ n ∧ iv = .int .i64 k ∧ Below w.heap.size w w') (fun i _ => n - (intOf i).toNat)
  case atStart => exact ⟨0, by omega, rfl, Below.refl _ _⟩
  case round =>
    obtain ⟨k, hk, rfl, hbl⟩ := hrel
    by_cases hkn : k < n
    · have kk0 : (0 : Int) ≤ (k : Int) := by omega
      have kk1 : (k : Int) < (n : Int) := by omega
      have cb : wr.drew.cell? ⟨p, k, none⟩ = some (.int .i64 (f k)) := cell_keep (HP.out.c k hkn) hbl.drew
      have cc : wr.drew.cell? ⟨q, k, none⟩ = some (.int .i64 (f k)) := cell_keep (HQ.out.c k hkn) hbl.drew
      have BD := hidden hbl.drew
      generalize f k = x at *
      clear hbl
      go_upto_region 6 with fail
      go_cut [25] (fun vx wx => vx = .bool false ∧ wx = wr.drew)
      case first =>
        go_region_with fail
        all_goals
          clear cb cc hk nn0 nn1 kk0 kk1 hn hkn
          go_wp2_with fail
          go_meet
          exact ⟨rfl, rfl⟩
      case rest =>
      obtain ⟨rfl, rfl⟩ := hcut
      clear cb cc
      generalize wr.drew = wd at *
      go_wp2_with fail
      go_roundw
      case rel => exact ⟨k + 1, by omega, by go_num, BD.out⟩
      case measure => simp [intOf]; omega
    · have hkk : k = n := by omega
      subst hkk
      have lq : ¬ (k : Int) < (k : Int) := by omega
      go_wp2_with fail
      go_ret
      exact ⟨rfl, hbl⟩
theorem own_keep {w1 w2 : World} {base : Nat} {e : TypeId} {v : Value} {n : Nat} {xs : List Value} (h : w1.ownsRow base e 1 v n xs) (hb : Below w1.heap.size w1 w2) : w2.ownsRow base e 1 v n xs :=
  h.kept (row := none) ⟨hb.os, hb.tape, hb.output, hb.size, fun k hk _ => hb.block k hk⟩ (by cases v.ownBlock <;> simp)
theorem St.keepB {w0 : World} {L : List (Nat × E4)} {w1 w2 : World} {n : Nat} (h : St w0 L [] w1) (hb : Below n w1 w2) (hL : ∀ p ∈ L, p.1 < n) (h0 : w0.heap.size ≤ n) : St w0 L [] w2 := by
  refine ⟨fun p hp => ?_, fun b hb' => absurd hb' (by simp), ⟨hb.os.trans h.bel.os, hb.tape.trans h.bel.tape, hb.output.trans h.bel.output, Nat.le_trans h.bel.size hb.size, fun k hk => (hb.block k (by omega)).trans (h.bel.block k hk)⟩⟩
  have hl := h.live p hp
  have e := hb.block p.1 (hL p hp)
  exact ⟨(World.cell?_of_block e).trans hl.c0, (World.cell?_of_block e).trans hl.c1, (World.cell?_of_block e).trans hl.c2, (World.cell?_of_block e).trans hl.c3⟩
/-- the first digits -/
def dgs (N : Int) (m i : Nat) : List Value := (List.range i).map fun j => Value.int .i64 (dg N m j)
theorem dgs_succ (N : Int) (m i : Nat) : dgs N m (i + 1) = dgs N m i ++ [.int .i64 (dg N m i)] := by simp [dgs, List.range_succ]

set_option maxRecDepth 100000 in
set_option maxHeartbeats 8000000 in
theorem rDigits_in (A : E4) (m : Nat) (w : World) (ha : A.ok) (hm0 : 1 ≤ m) (hm : m ≤ 12) :
    Calls Tryd.prog 29 #[A.v, .int .i64 m] w fun e w' => ∃ b c : Nat, e = .returned (.tuple #[.slice (some ⟨b, 0, none⟩) (253 / m + 1) c, .int .i64 0]) ∧ Rwi w' b (253 / m + 1) (dg A.n m) ∧ Below w.heap.size w w' := by
  have CB := hidden (fun k w => rBit_all A ha k w)
  have HN := hidden (ok_bd ha).1
  obtain ⟨q, hq⟩ : ∃ q, 253 / m = q := ⟨_, rfl⟩
  have hqm : m * q ≤ 253 := by rw [← hq]; exact Nat.mul_div_le 253 m
  have q253 : q ≤ 253 := by rw [← hq]; exact Nat.div_le_self _ _
  rw [hq]
  have dv : (253 : Int).tdiv (m : Int) = (q : Int) := by
    rw [Int.tdiv_eq_ediv_of_nonneg (by omega), ← hq]; rfl
  have QM := hidden hqm
  have mm1 : (1 : Int) ≤ (m : Int) := by omega
  have mm2 : (m : Int) ≤ 12 := by omega
  have mz : ¬ (m : Int) = 0 := by omega
  have ml : ¬ (m : Int) < 1 := by omega
  have mg : ¬ (12 : Int) < (m : Int) := by omega
  have q0 : (0 : Int) ≤ (q : Int) := by omega
  have q1 : (q : Int) ≤ 253 := by omega
  have wq : IntKind.i64.wrap ((q : Int) + 1) = (q : Int) + 1 := IntWalk.i64_in _ (by omega)
  have wm1 : IntKind.i64.wrap ((m : Int) - 1) = (m : Int) - 1 := IntWalk.i64_in _ (by omega)
  have wm2 : ((m : Int) - 1).toNat = m - 1 := by omega
  have wm3 : (0 : Int) ≤ (m : Int) - 1 := by omega
  obtain ⟨i0, hi0, hz0, hz1, hz2⟩ := info_parts intinfo
  have HI := hidden hi0
  have HZ0 := hidden hz0
  have HZ1 := hidden hz1
  have HZ2 := hidden hz2
  have S1 := hidden (St.start w A 52)
  clear ha hq hqm hi0 hz0 hz1 hz2
  simp only [E4.v] at CB ⊢
  go_enter Tryd.func29, Tryd.ntmps29
  go_upto_region 3 with fail
  generalize (w.alloc (.cells #[.int .u64 A.x0, .int .u64 A.x1, .int .u64 A.x2, .int .u64 A.x3] 52)) = wB at S1 ⊢
  have hl := (S1.out.live (w.heap.size, A) (by simp)).lt
  go_wp2_with fail
  go_loopw [6, 7, 8] (fun ov cv iv w' => ∃ i : Nat, i ≤ q + 1 ∧ cv = .int .i64 (dgc A.n m i) ∧ iv = .int .i64 i ∧ Hid (w'.ownsRow (w.heap.size + 1) 3 1 ov i (dgs A.n m i)) ∧ w.heap.size + 1 ≤ w'.heap.size ∧ Hid (St w [(w.heap.size, A)] [] w')) (fun _ _ i _ => q + 1 - (intOf i).toNat)
  case atStart => exact ⟨0, by omega, rfl, rfl, hidden (World.ownsRow_nil _ _ _ _), by omega, S1⟩
  case round =>
    clear S1 hl
    obtain ⟨i, hi, rfl, rfl, how, hsz, hst⟩ := hrel
    by_cases hiq : i < q + 1
    · have ii0 : (0 : Int) ≤ (i : Int) := by omega
      have ii1 : (i : Int) < (q : Int) + 1 := by omega
      have hpq : m * i ≤ 253 := Nat.le_trans (Nat.mul_le_mul_left m (show i ≤ q by omega)) QM.out
      have hp : IntKind.i64.wrap ((m : Int) * (i : Int)) = ((m * i : Nat) : Int) := by rw [← Int.natCast_mul]; exact IntWalk.i64_in _ (by omega)
      have xb := win_bd A.n (m * i) m
      have cb := dgc_bd A.n m i
      have p12 := pow12 m hm
      have p11 := pow12 (m - 1) (by omega)
      have p0 := p2pos (m - 1)
      have p1 := p2pos m
      have ND : Hid (dgc A.n m (i + 1) = if win A.n (m * i) m + dgc A.n m i > 2 ^ (m - 1) then 1 else 0) := hidden rfl
      have NG : Hid (dg A.n m i = if win A.n (m * i) m + dgc A.n m i > 2 ^ (m - 1) then win A.n (m * i) m + dgc A.n m i - 2 ^ m else win A.n (m * i) m + dgc A.n m i) := hidden rfl
      have CC := hidden (fun k => CB.out (m * i + k))
      have WS := hidden (fun k => win_succ A.n HN.out (m * i) k)
      have WB := hidden (fun k => win_bd A.n (m * i) k)
      have WZ := hidden (win_zero A.n (m * i))
      obtain ⟨pp, hpp⟩ : ∃ p, m * i = p := ⟨_, rfl⟩
      rw [hpp] at hp xb ND NG CC WS WB WZ hpq
      obtain ⟨X, hX⟩ : ∃ X, win A.n pp m = X := ⟨_, rfl⟩
      rw [hX] at xb ND NG
      obtain ⟨C, hC⟩ : ∃ C, dgc A.n m i = C := ⟨_, rfl⟩
      rw [hC] at ND NG cb ⊢
      obtain ⟨H, hH⟩ : ∃ H, (2 : Int) ^ (m - 1) = H := ⟨_, rfl⟩
      obtain ⟨M, hM⟩ : ∃ M, (2 : Int) ^ m = M := ⟨_, rfl⟩
      rw [hH] at ND NG p11 p0
      rw [hM] at NG p12 p1 xb
      have w4 : IntKind.i64.wrap (2 ^ (m - 1)) = H := by rw [hH]; exact IntWalk.i64_in _ (by omega)
      have w5 : IntKind.i64.wrap (2 ^ m) = M := by rw [hM]; exact IntWalk.i64_in _ (by omega)
      have HX := hidden hX
      have PQ := hidden hpq
      have XB := hidden (show 0 ≤ X ∧ X < 4096 by omega)
      have CBD := hidden cb
      clear hpp hX hC hH hM
      go_wp2_with fail
      go_loopw [9, 10] (fun dvv kv w' => ∃ k : Nat, k ≤ m ∧ dvv = .int .i64 (C + (X - win A.n pp k)) ∧ kv = .int .i64 ((k : Int) - 1) ∧ Hid (w'.ownsRow (w.heap.size + 1) 3 1 u6 i (dgs A.n m i)) ∧ w.heap.size + 1 ≤ w'.heap.size ∧ Hid (St w [(w.heap.size, A)] [] w')) (fun _ k _ => (intOf k + 1).toNat)
      case atStart => exact ⟨m, by omega, by rw [HX.out, Int.sub_self, Int.add_zero], rfl, how, hsz, hst⟩
      case round =>
        clear how hst hsz
        obtain ⟨k, hk, rfl, rfl, how, hsz, hst⟩ := hrel
        cases k with
        | succ k =>
          rw [show ((k + 1 : Nat) : Int) - 1 = (k : Int) by omega]
          have kk0 : (0 : Int) ≤ (k : Int) := by omega
          have kk1 : (k : Int) < (m : Int) := by omega
          have C1 := hidden (CC.out k)
          have ws := WS.out k
          have xk := WB.out (k + 1)
          have yk := bt_bd A.n (pp + k)
          have pk := pow12 k (by omega)
          have pk1 := pow12 (k + 1) (by omega)
          have pk0 := p2pos k
          have hpq := PQ.out
          have v1 : IntKind.i64.wrap ((pp : Int) + (k : Int)) = ((pp + k : Nat) : Int) := by rw [← Int.natCast_add]; exact IntWalk.i64_in _ (by omega)
          generalize bt A.n (pp + k) = z at *
          obtain ⟨P, hP⟩ : ∃ P, (2 : Int) ^ k = P := ⟨_, rfl⟩
          have zb : 0 ≤ z * P ∧ z * P ≤ 4096 := by
            rw [hP] at pk pk0
            rcases (show z = 0 ∨ z = 1 by omega) with h | h <;> subst h <;> omega
          rw [hP] at ws pk
          have v2 : IntKind.i64.wrap (z * 2 ^ k) = z * P := by rw [hP]; exact IntWalk.i64_in _ (by omega)
          obtain ⟨Y, hY⟩ : ∃ Y, win A.n pp (k + 1) = Y := ⟨_, rfl⟩
          rw [hY] at ws xk ⊢
          have xb2 := XB.out
          have cb2 := CBD.out
          have v3 : IntKind.i64.wrap (C + (X - Y) + z * P) = C + (X - Y) + z * P := IntWalk.i64_in _ (by omega)
          have WS2 := hidden ws
          have x0 := (hst.out.live (w.heap.size, A) (by simp)).c0
          have x1 := (hst.out.live (w.heap.size, A) (by simp)).c1
          have x2 := (hst.out.live (w.heap.size, A) (by simp)).c2
          have x3 := (hst.out.live (w.heap.size, A) (by simp)).c3
          have S4 := hidden (fun (wx : World) (hb : Below wr.heap.size wr wx) => (⟨hst.out.keep hb, own_keep how.out hb, Nat.le_trans hsz hb.size⟩ : St w [(w.heap.size, A)] [] wx ∧ wx.ownsRow (w.heap.size + 1) 3 1 u6 i (dgs A.n m i) ∧ w.heap.size + 1 ≤ wx.heap.size))
          clear hst how hsz ws hP xk yk pk pk0 pk1 zb hY xb2 cb2 hpq
          go_wp2_with fail
          refine (C1.out _).mono ?_
          rintro e wz ⟨rfl, hb⟩
          obtain ⟨s5, o5, z5⟩ := S4.out _ hb
          have S5 := hidden s5
          have O5 := hidden o5
          clear hb s5 o5 x0 x1 x2 x3 S4
          go_wp2_with fail
          go_roundw
          case rel => exact ⟨k, by omega, by rw [show C + (X - Y) + z * P = C + (X - win A.n pp k) by have := WS2.out; omega], rfl, O5, z5, S5⟩
          case measure => simp [intOf]
        | zero =>
          rw [show ((0 : Nat) : Int) - 1 = -1 from rfl, WZ.out, Int.sub_zero]
          have xb2 := XB.out
          have cb2 := CBD.out
          obtain ⟨D, hD⟩ : ∃ D, C + X = D := ⟨_, rfl⟩
          rw [show X + C = D by omega] at ND NG
          rw [hD]
          have w7 : IntKind.i64.wrap (D - M) = D - M := IntWalk.i64_in _ (by omega)
          clear hD xb2 cb2 xb cb p12 p11 p0 p1 hp
          by_cases hd : D > H
          · rw [if_pos hd] at ND NG
            go_wp2_with (first | (at_builtin; refine wpList_append_more _ rfl _ _ 46 rfl (w.heap.size + 1) 3 i0 (.int .i64 0) 8 Tryd.underlying46 HI.out HZ0.out HZ1.out HZ2.out rfl _ _ _ rfl (Or.inl (how.out.alloc _)) ⟨wr.heap.size, 0, none⟩ (.int .i64 (D - M)) rfl (cell_one_new _ _ _ 0 _ rfl) rfl (by unfold maxLen; omega) (by omega) (by simp; omega) ?_; intro v' w3 hown hb3; have HO := hidden hown; have SZ3 := hidden (Nat.le_trans hsz (Nat.le_trans (bl_alloc wr _).size hb3.size)); have S6 := hidden ((hst.out.keep (bl_alloc _ _)).keepB hb3 (by intro p hp; rw [List.mem_singleton] at hp; subst hp; show w.heap.size < w.heap.size + 1; omega) (by omega)); clear hown hb3))
            go_roundw
            case rel => exact ⟨i + 1, by omega, by rw [ND.out], by go_num, hidden (by rw [dgs_succ, NG.out]; exact HO.out), SZ3.out, S6⟩
            case measure => simp [intOf]; omega
          · rw [if_neg hd] at ND NG
            have hd' : ¬ H < D := hd
            go_wp2_with (first | (at_builtin; refine wpList_append_more _ rfl _ _ 46 rfl (w.heap.size + 1) 3 i0 (.int .i64 0) 8 Tryd.underlying46 HI.out HZ0.out HZ1.out HZ2.out rfl _ _ _ rfl (Or.inl (how.out.alloc _)) ⟨wr.heap.size, 0, none⟩ (.int .i64 D) rfl (cell_one_new _ _ _ 0 _ rfl) rfl (by unfold maxLen; omega) (by omega) (by simp; omega) ?_; intro v' w3 hown hb3; have HO := hidden hown; have SZ3 := hidden (Nat.le_trans hsz (Nat.le_trans (bl_alloc wr _).size hb3.size)); have S6 := hidden ((hst.out.keep (bl_alloc _ _)).keepB hb3 (by intro p hp; rw [List.mem_singleton] at hp; subst hp; show w.heap.size < w.heap.size + 1; omega) (by omega)); clear hown hb3))
            go_roundw
            case rel => exact ⟨i + 1, by omega, by rw [ND.out], by go_num, hidden (by rw [dgs_succ, NG.out]; exact HO.out), SZ3.out, S6⟩
            case measure => simp [intOf]; omega
    · have hii : i = q + 1 := by omega
      subst hii
      rcases how.out.2 with ⟨_, h0⟩ | ⟨gg, cap, cur, rfl, hg, hblk, hnc, _, _, _⟩
      · omega
      have R3 : Hid (Rwi wr gg (q + 1) (dg A.n m)) := hidden ⟨fun j hj => by rw [how.out.cellAt j (by omega)]; simp [dgs, hj], fun j _ => how.out.frozenAt j, (how.out.lt gg rfl).2⟩
      have B3 := hidden hst.out.bel
      have lq : ¬ ((q + 1 : Nat) : Int) < (q : Int) + 1 := by omega
      clear hst how
      go_wp2_with fail
      refine bodyPost_ret (v := .tuple #[.slice (some ⟨gg, 0, none⟩) (q + 1) cap, .int .i64 0]) (by simp [results, Tryd.results29, go_sem]) rfl ⟨gg, ⟨cap, rfl⟩, R3.out, B3.out⟩
set_option maxRecDepth 100000 in
set_option maxHeartbeats 4000000 in
theorem rDigits_out (a : E4) (i : Int) (w : World) (hi : i < 1 ∨ 12 < i) :
    Calls Tryd.prog 29 #[a.v, .int .i64 i] w fun e w' => e = .returned (.tuple #[.slice none 0 0, .int .i64 1]) ∧ Below w.heap.size w w' := by
  simp only [E4.v]
  rcases hi with h | h
  · go_enter Tryd.func29, Tryd.ntmps29
    go_wp2_with fail
    refine bodyPost_ret (v := .tuple #[.slice none 0 0, .int .i64 1]) (by simp [results, Tryd.results29, go_sem]) rfl ⟨rfl, bl_alloc w _⟩
  · have h0 : ¬ i < 1 := by omega
    go_enter Tryd.func29, Tryd.ntmps29
    go_wp2_with fail
    refine bodyPost_ret (v := .tuple #[.slice none 0 0, .int .i64 1]) (by simp [results, Tryd.results29, go_sem]) rfl ⟨rfl, bl_alloc w _⟩
end Go.Proofs.YtglalahmcckjaaaDoor
