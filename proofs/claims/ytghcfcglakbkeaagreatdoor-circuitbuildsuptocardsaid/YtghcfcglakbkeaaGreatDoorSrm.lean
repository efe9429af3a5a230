import Derived.Test.YtghcfcglakbkeaaGreatDoorSraz
namespace Go.Proofs.YtghcfcglakbkeaaGreatDoor
open Go.RowKit
theorem St.aside1 {w0 : World} {L : List (Nat × E4)} {R : List Nat} {w1 : World} {b : Nat} (h : St w0 L R w1) (hn : ∀ p ∈ L, b ≠ p.1) (h0 : w0.heap.size ≤ b) (k : Nat) (v : Value) : St w0 L R (w1.setCell ⟨b, k, none⟩ v) :=
 ⟨fun p hp => (h.live p hp).far1 (hn p hp) _ _, fun c hc => ⟨(h.wrt c hc).1.put _ _ _, by simpa using (h.wrt c hc).2⟩, h.bel.setCell h0 _⟩
theorem Rw.new (w : World) (n : Nat) (f : Nat → Int) (xs : Array Value) (t : TypeId) (h : ∀ j, j < n → xs[j]? = some (.int .u64 (f j))) : Rw (w.alloc (.cells xs t)) w.heap.size n f := by
 refine ⟨fun j hj => ?_, fun j hj => ?_⟩
 ·have := h j hj
  go_simp
 ·go_simp
theorem and16m (u : Int) (h0 : 0 ≤ u) (h1 : u ≤ 18446744073709551615) : bits .and .u64 u 65535 = u % 65536 := by
 rw [u64_and u 65535 h0 (by omega) (by omega) (by omega)]
 have : u.toNat &&& (65535 : Int).toNat = u.toNat % 65536 := Nat.and_two_pow_sub_one_eq_mod u.toNat 16
 rw [this]; omega
structure MuW (w0 : World) (bx bb bp : Nat) (x y P : Nat → Int) (w : World) : Prop where
 st : St w0 [(w0.heap.size + 1 + 1, zero4)] [w0.heap.size + 1 + 1] w
 xr : Rw w bx 8 x
 yr : Rw w bb 8 y
 pr : Rw w bp 16 P
 n1 : bp ≠ bx
 n2 : bp ≠ bb
 n3 : w0.heap.size + 1 + 1 < bp
theorem MuW.drew {w0 : World} {bx bb bp : Nat} {x y P : Nat → Int} {w : World} (h : MuW w0 bx bb bp x y P w) : MuW w0 bx bb bp x y P w.drew :=
 ⟨h.st.drew, h.xr.drew (by omega), h.yr.drew (by omega), h.pr.drew (by omega), h.n1, h.n2, h.n3⟩
theorem MuW.put {w0 : World} {bx bb bp : Nat} {x y P : Nat → Int} {w : World} (h : MuW w0 bx bb bp x y P w) (k : Nat) (hk : k < 16) (v : Int) : MuW w0 bx bb bp x y (upd P k v) (w.setCell ⟨bp, k, none⟩ (.int .u64 v)) := by
 have n3 := h.n3
 exact ⟨h.st.aside1 (by intro p hp; rw [List.mem_singleton] at hp; subst hp; show bp ≠ w0.heap.size + 1 + 1; omega) (by omega) k _, h.xr.far h.n1 k _, h.yr.far h.n2 k _, h.pr.at k hk v, h.n1, h.n2, h.n3⟩
set_option maxRecDepth 100000 in
set_option maxHeartbeats 8000000 in
theorem rMul_raw (a b : E4) (w : World) (ha : a.ok) (hb : b.ok) :
  Calls Tryz.prog 50 #[a.v, b.v] w fun e w' => ∃ t : E4, e = .returned t.v ∧ t.is (a.n * b.n) ∧ Below w.heap.size w w' := by
 have HA := Hn ha
 have HB := Hn hb
 have ra := Hn (fun w => rhalves_any a w ha)
 have rb := Hn (fun w => rhalves_any b w hb)
 have s0 := ((St.start w a 52).new b 52).room 52
 simp only [World.size_alloc] at s0
 have S0 := Hn s0
 clear s0 ha hb
 simp only [E4.v] at ra rb ⊢
 go_enter Tryz.func50, Tryz.ntmps50
 go_upto_region 1 with fail
 generalize (((w.alloc (.cells #[.int .u64 a.x0, .int .u64 a.x1, .int .u64 a.x2, .int .u64 a.x3] 52)).alloc (.cells #[.int .u64 b.x0, .int .u64 b.x1, .int .u64 b.x2, .int .u64 b.x3] 52)).alloc (.cells #[.int .u64 0, .int .u64 0, .int .u64 0, .int .u64 0] 52)) = wB at S0 ⊢
 have x0 := (S0.out.live (w.heap.size, a) (by simp)).c0
 have x1 := (S0.out.live (w.heap.size, a) (by simp)).c1
 have x2 := (S0.out.live (w.heap.size, a) (by simp)).c2
 have x3 := (S0.out.live (w.heap.size, a) (by simp)).c3
 go_cut [5] (fun vx wx => ∃ bx : Nat, vx = .pointer (some ⟨bx, 0, none⟩) ∧ w.heap.size + 1 + 1 < bx ∧ St w [(w.heap.size + 1 + 1, zero4), (w.heap.size + 1, b)] [w.heap.size + 1 + 1] wx ∧ Rw wx bx 8 (hv a))
 case first =>
  go_wp2_with fail
  refine (ra.out _).mono ?_
  rintro e w1 ⟨rfl, hb1⟩
  have s1 := S0.out.keep hb1
  have hl := (s1.live (w.heap.size + 1 + 1, zero4) (by simp)).lt
  have X0 := Hn (Rw.new w1 8 (hv a) #[.int .u64 (hv a 0), .int .u64 (hv a 1), .int .u64 (hv a 2), .int .u64 (hv a 3), .int .u64 (hv a 4), .int .u64 (hv a 5), .int .u64 (hv a 6), .int .u64 (hv a 7)] 150 (fun j hj => by
  have h8 : j = 0 ∨ j = 1 ∨ j = 2 ∨ j = 3 ∨ j = 4 ∨ j = 5 ∨ j = 6 ∨ j = 7 := by omega
  rcases h8 with rfl | rfl | rfl | rfl | rfl | rfl | rfl | rfl <;> rfl))
  have S1 := Hn (St.sub (M := [(w.heap.size + 1 + 1, zero4), (w.heap.size + 1, b)]) (s1.keep (bl_alloc _ (.cells #[.int .u64 (hv a 0), .int .u64 (hv a 1), .int .u64 (hv a 2), .int .u64 (hv a 3), .int .u64 (hv a 4), .int .u64 (hv a 5), .int .u64 (hv a 6), .int .u64 (hv a 7)] 150))) (by simp))
  clear x0 x1 x2 x3 hb1 S0 s1
  go_wp2_with fail
  go_meet
  exact ⟨_, rfl, hl, S1.out, X0.out⟩
 case rest =>
 obtain ⟨bx, rfl, hbx, s1, x1⟩ := hcut
 have S1 := Hn s1
 have X1 := Hn x1
 clear s1 x1 S0 x0 x2 x3 ra
 have x0 := (S1.out.live (w.heap.size + 1, b) (by simp)).c0
 have x1 := (S1.out.live (w.heap.size + 1, b) (by simp)).c1
 have x2 := (S1.out.live (w.heap.size + 1, b) (by simp)).c2
 have x3 := (S1.out.live (w.heap.size + 1, b) (by simp)).c3
 go_upto_region 2 with fail
 go_cut [6] (fun vx wx => ∃ bb : Nat, vx = .pointer (some ⟨bb, 0, none⟩) ∧ w.heap.size + 1 + 1 < bb ∧ St w [(w.heap.size + 1 + 1, zero4)] [w.heap.size + 1 + 1] wx ∧ Rw wx bx 8 (hv a) ∧ Rw wx bb 8 (hv b))
 case first =>
  go_wp2_with fail
  refine (rb.out _).mono ?_
  rintro e w1 ⟨rfl, hb1⟩
  have s1 := S1.out.keep hb1
  have y1 := X1.out.keep (by omega) hb1
  have hl := (s1.live (w.heap.size + 1 + 1, zero4) (by simp)).lt
  have X0 := Hn (Rw.new w1 8 (hv b) #[.int .u64 (hv b 0), .int .u64 (hv b 1), .int .u64 (hv b 2), .int .u64 (hv b 3), .int .u64 (hv b 4), .int .u64 (hv b 5), .int .u64 (hv b 6), .int .u64 (hv b 7)] 150 (fun j hj => by
  have h8 : j = 0 ∨ j = 1 ∨ j = 2 ∨ j = 3 ∨ j = 4 ∨ j = 5 ∨ j = 6 ∨ j = 7 := by omega
  rcases h8 with rfl | rfl | rfl | rfl | rfl | rfl | rfl | rfl <;> rfl))
  have S2 := Hn (St.sub (M := [(w.heap.size + 1 + 1, zero4)]) (s1.keep (bl_alloc _ (.cells #[.int .u64 (hv b 0), .int .u64 (hv b 1), .int .u64 (hv b 2), .int .u64 (hv b 3), .int .u64 (hv b 4), .int .u64 (hv b 5), .int .u64 (hv b 6), .int .u64 (hv b 7)] 150))) (by simp))
  have Y2 := Hn (y1.keep (by omega) (bl_alloc _ (.cells #[.int .u64 (hv b 0), .int .u64 (hv b 1), .int .u64 (hv b 2), .int .u64 (hv b 3), .int .u64 (hv b 4), .int .u64 (hv b 5), .int .u64 (hv b 6), .int .u64 (hv b 7)] 150)))
  clear x0 x1 x2 x3 hb1 S1 X1 s1 y1
  go_wp2_with fail
  go_meet
  exact ⟨_, rfl, hl, S2.out, Y2.out, X0.out⟩
 case rest =>
 obtain ⟨bb, rfl, hbb, s2, x1, y1⟩ := hcut
 have hxs := x1.lt (by omega)
 have hys := y1.lt (by omega)
 have S2 := Hn s2
 have X2 := Hn x1
 have Y2 := Hn y1
 clear s2 x1 y1 S1 X1 x0 x2 x3 rb
 go_upto_region 3 with fail
 go_cut [7] (fun vx wx => ∃ bp : Nat, vx = .pointer (some ⟨bp, 0, none⟩) ∧ MuW w bx bb bp (hv a) (hv b) (fun _ => 0) wx)
 case first =>
  go_wp2_with fail
  go_meet
  refine ⟨_, rfl, S2.out.keep (bl_alloc _ _), X2.out.keep (by omega) (bl_alloc _ _), Y2.out.keep (by omega) (bl_alloc _ _), Rw.new _ 16 _ _ _ (fun j hj => ?_), by omega, by omega, by omega⟩
  have h8 : j = 0 ∨ j = 1 ∨ j = 2 ∨ j = 3 ∨ j = 4 ∨ j = 5 ∨ j = 6 ∨ j = 7 ∨ j = 8 ∨ j = 9 ∨ j = 10 ∨ j = 11 ∨ j = 12 ∨ j = 13 ∨ j = 14 ∨ j = 15 := by omega
  rcases h8 with rfl | rfl | rfl | rfl | rfl | rfl | rfl | rfl | rfl | rfl | rfl | rfl | rfl | rfl | rfl | rfl <;> rfl
 case rest =>
 obtain ⟨bp, rfl, m0⟩ := hcut
 have M0 := Hn m0
 clear m0 S2 X2 Y2 hxs hys
 have n3 := M0.out.n3
 go_wp2_with fail
 go_loopw [8] (fun iv w' => ∃ (i : Nat) (P : Nat → Int), i ≤ 8 ∧ iv = .int .i64 i ∧ Hid (Mo (hv a) (hv b) P i) ∧ Hid (MuW w bx bb bp (hv a) (hv b) P w')) (fun i _ => 8 - (intOf i).toNat)
 case atStart => exact ⟨0, _, by omega, rfl, Hn (Mo.start _ _), M0⟩
 case round =>
  obtain ⟨i, P, hi, rfl, hmo, hmu⟩ := hrel
  clear M0
  by_cases hi8 : i < 8
  ·have ii0 : (0 : Int) ≤ (i : Int) := by omega
   have ii1 : (i : Int) < 8 := by omega
   have MI := Hn hmo.out.inner
   clear hmo
   go_wp2_with fail
   go_loopw [9, 10] (fun cv kv w' => ∃ (k : Nat) (P : Nat → Int) (c : Int), k ≤ 8 ∧ cv = .int .u64 c ∧ kv = .int .i64 k ∧ Hid (Mi (hv a) (hv b) P c i k) ∧ Hid (MuW w bx bb bp (hv a) (hv b) P w')) (fun _ k _ => 8 - (intOf k).toNat)
   case atStart => exact ⟨0, P, 0, by omega, rfl, rfl, MI, hmu⟩
   case round =>
    clear MI hmu
    obtain ⟨k, P, c, hk, rfl, rfl, hmi, hmu⟩ := hrel
    by_cases hk8 : k < 8
    ·have kk0 : (0 : Int) ≤ (k : Int) := by omega
     have kk1 : (k : Int) < 8 := by omega
     have nx := hmi.out.next hi8 hk8 (hv_bd a HA.out i) (hv_bd b HB.out k)
     have bd := hmi.out.bd (hv_bd a HA.out i) (hv_bd b HB.out k)
     have pb := hmi.out.b (i + k)
     have c0 := hmi.out.c0
     have c1 := hmi.out.c1
     have NU := Hn (hmu.out.drew.put (i + k) (by omega) (mt (hv a) (hv b) P c i k % 4294967296))
     have NX := Hn nx
     have cx := hmu.out.drew.xr.c i hi8
     have cy := hmu.out.drew.yr.c k hk8
     have cp := hmu.out.drew.pr.c (i + k) (by omega)
     have fp := hmu.out.drew.pr.fr (i + k) (by omega)
     clear nx hmu hmi
     have V : mt (hv a) (hv b) P c i k = hv a i * hv b k + P (i + k) + c := rfl
     generalize mt (hv a) (hv b) P c i k = t at *
     generalize hv a i = X at *
     generalize hv b k = Y at *
     generalize P (i + k) = p at *
     obtain ⟨q, hq⟩ : ∃ q, X * Y = q := ⟨_, rfl⟩
     rw [hq] at V bd
     have w1 : IntKind.u64.wrap (X * Y) = q := by rw [hq, IntKind.wrap_u64]; omega
     have w2 : IntKind.u64.wrap (q + p) = q + p := by rw [IntKind.wrap_u64]; omega
     have w3 : IntKind.u64.wrap (q + p + c) = t := by rw [IntKind.wrap_u64]; omega
     have A0 := and32 t bd.2.2.1 (by omega)
     have hi1 : IntKind.i64.wrap ((i : Int) + (k : Int)) = (i : Int) + (k : Int) := IntWalk.i64_in _ (by omega)
     have hi2 : ((i : Int) + (k : Int)).toNat = i + k := by omega
     have hi3 : (i : Int) + (k : Int) < 16 := by omega
     have hi4 : (0 : Int) ≤ (i : Int) + (k : Int) := by omega
     clear bd pb V hq
     go_upto_region 11 with fail
     go_region_with fail
     all_goals
      clear cx cy w1 w2 w3
      go_wp2_with fail
      go_roundw
      case rel => exact ⟨k + 1, _, _, by omega, rfl, by go_num, NX, NU⟩
      case measure => simp [intOf]; omega
    ·have hkk : k = 8 := by omega
     subst hkk
     have NX := Hn (hmi.out.close hi8)
     have NU := Hn (hmu.out.put (i + 8) (by omega) c)
     have cp := hmu.out.pr.c (i + 8) (by omega)
     have fp := hmu.out.pr.fr (i + 8) (by omega)
     have hi1 : IntKind.i64.wrap ((i : Int) + 8) = (i : Int) + 8 := IntWalk.i64_in _ (by omega)
     have hi2 : ((i : Int) + 8).toNat = i + 8 := by omega
     have hi3 : (i : Int) + 8 < 16 := by omega
     have hi4 : (0 : Int) ≤ (i : Int) + 8 := by omega
     clear hmi hmu
     rw [show ((8 : Nat) : Int) = 8 from rfl]
     go_wp2_with fail
     go_roundw
     case rel => exact ⟨i + 1, _, by omega, by go_num, NX, NU⟩
     case measure => simp [intOf]; omega
  ·have hii : i = 8 := by omega
   subst hii
   have TV := Hn hmo.out.all
   have PB := Hn hmo.out.b
   have st0 := hmu.out.st
   have pr0 := hmu.out.pr
   clear hmo
   rw [show ((8 : Nat) : Int) = 8 from rfl]
   go_upto_region 15 with fail
   go_cut [12] (fun vx wx => ∃ br : Nat, vx = .pointer (some ⟨br, 0, none⟩) ∧ bp < br ∧ St w [(br, zero4), (w.heap.size + 1 + 1, zero4)] [br, w.heap.size + 1 + 1] wx ∧ Rw wx bp 16 P)
   case first =>
    have hl := pr0.lt (by omega)
    have S1 := Hn (st0.roomR zero4 52)
    have P1 := Hn (pr0.keep (by omega) (bl_alloc _ (.cells #[.int .u64 0, .int .u64 0, .int .u64 0, .int .u64 0] 52)))
    clear st0 pr0 hmu
    go_wp2_with fail
    go_meet
    exact ⟨_, rfl, hl, S1.out, P1.out⟩
   case rest =>
   obtain ⟨br, rfl, hbr, s1, p1⟩ := hcut
   have S1 := Hn s1
   have P1 := Hn p1
   clear s1 p1 st0 pr0 hmu
   go_wp2_with fail
   go_loopw [13] (fun iv w' => ∃ (d : Nat) (r : E4), d ≤ 16 ∧ iv = .int .i64 (15 - (d : Int)) ∧ r.is (tv P d) ∧ Hid (St w [(br, r), (w.heap.size + 1 + 1, zero4)] [br, w.heap.size + 1 + 1] w') ∧ Hid (Rw w' bp 16 P)) (fun i _ => (intOf i + 1).toNat)
   case atStart => exact ⟨0, zero4, by omega, rfl, zero_lst.symm, S1, P1⟩
   case round =>
    obtain ⟨d, r, hd, rfl, hr, hst, hpr⟩ := hrel
    clear S1 P1
    by_cases hd16 : d < 16
    ·obtain ⟨m, hm⟩ : ∃ m : Nat, m = 15 - d := ⟨_, rfl⟩
     rw [show (15 : Int) - (d : Int) = (m : Int) by omega]
     have mm0 : (0 : Int) ≤ (m : Int) := by omega
     have mm1 : (m : Int) < 16 := by omega
     obtain ⟨p, hp⟩ : ∃ p, P m = p := ⟨_, rfl⟩
     have pb := PB.out m
     rw [hp] at pb
     have pq : 0 ≤ p / 65536 ∧ p / 65536 < 65536 := by omega
     have pr : 0 ≤ p % 65536 ∧ p % 65536 < 65536 := by omega
     have A16 := and16m p pb.1 (by omega)
     have TN := Hn (fun (s t : E4) (hs : s.is (65536 * r.n + p / 65536)) (ht : t.is (65536 * s.n + p % 65536)) => (show t.is (tv P (d + 1)) from tv_next hr (by rw [← hm, hp]; exact hs) (by rw [← hm, hp]; exact ht)))
     have RS := Hn (fun w => rstep_any r (p / 65536) w hr.ok hr.lt pq.1 pq.2)
     have RT := Hn (fun (s : E4) (hk : s.ok) (hl : s.n < Sm.L) w => rstep_any s (p % 65536) w hk hl pr.1 pr.2)
     have SD := Hn hst.out.drew
     have PD := Hn (hpr.out.drew (by omega))
     have c0 : wr.drew.cell? ⟨br, 0, none⟩ = some (.int .u64 r.x0) := (SD.out.live (br, r) (by simp)).c0
     have c1 : wr.drew.cell? ⟨br, 1, none⟩ = some (.int .u64 r.x1) := (SD.out.live (br, r) (by simp)).c1
     have c2 : wr.drew.cell? ⟨br, 2, none⟩ = some (.int .u64 r.x2) := (SD.out.live (br, r) (by simp)).c2
     have c3 : wr.drew.cell? ⟨br, 3, none⟩ = some (.int .u64 r.x3) := (SD.out.live (br, r) (by simp)).c3
     have cp : wr.drew.cell? ⟨bp, m, none⟩ = some (.int .u64 p) := by have h := PD.out.c m (by omega); rw [hp] at h; exact h
     have HM := Hn hm
     have HP := Hn hp
     clear hst hpr hr hm hp
     simp only [E4.v] at RS RT
     go_upto_region 19 with fail
     go_cut [] (fun wx => ∃ s : E4, s.is (65536 * r.n + p / 65536) ∧ Hid (St w [(br, s), (w.heap.size + 1 + 1, zero4)] [br, w.heap.size + 1 + 1] wx) ∧ Hid (Rw wx bp 16 P))
     case first =>
      go_region_with (first | (go_at_call 89; with_reducible refine (RS.out _).mono ?_; rintro e wz ⟨s, rfl, ht, hb⟩; have S2 := SD.out.keep hb; have P2 := PD.out.keep (by omega) hb; have z0 := (S2.live (br, r) (by simp)).c0; have z1 := (S2.live (br, r) (by simp)).c1; have z2 := (S2.live (br, r) (by simp)).c2; have z3 := (S2.live (br, r) (by simp)).c3; obtain ⟨f0, f1, f2, f3⟩ := (S2.wrt br (by simp)).1; have S3 := Hn (S2.set (b := br) (M := [(w.heap.size + 1 + 1, zero4)]) s (old := r) (by simp) (by omega) (by simp; omega)); have P3 := Hn (P2.far4 (c := br) (by omega) s); have HT := Hn ht; clear S2 P2 ht hb))
      all_goals
       clear c0 c1 c2 c3 cp
       go_wp2_with fail
       go_meet
       exact ⟨s, HT.out, S3, P3⟩
     case rest =>
     obtain ⟨s, hs, S5, P5⟩ := hcut
     clear SD PD c0 c1 c2 c3 cp RS
     have HS := Hn hs
     have SD := Hn S5.out.drew
     have PD := Hn (P5.out.drew (by omega))
     have c0 : wc.drew.cell? ⟨br, 0, none⟩ = some (.int .u64 s.x0) := (SD.out.live (br, s) (by simp)).c0
     have c1 : wc.drew.cell? ⟨br, 1, none⟩ = some (.int .u64 s.x1) := (SD.out.live (br, s) (by simp)).c1
     have c2 : wc.drew.cell? ⟨br, 2, none⟩ = some (.int .u64 s.x2) := (SD.out.live (br, s) (by simp)).c2
     have c3 : wc.drew.cell? ⟨br, 3, none⟩ = some (.int .u64 s.x3) := (SD.out.live (br, s) (by simp)).c3
     have cp : wc.drew.cell? ⟨bp, m, none⟩ = some (.int .u64 p) := by have h := PD.out.c m (by omega); rw [HP.out] at h; exact h
     have RV := Hn (RT.out s hs.ok hs.lt)
     clear S5 P5 hs RT
     go_upto_region 20 with fail
     go_region_with (first | (go_at_call 89; with_reducible refine (RV.out _).mono ?_; rintro e wz ⟨t, rfl, ht, hb⟩; have S2 := SD.out.keep hb; have P2 := PD.out.keep (by omega) hb; have z0 := (S2.live (br, s) (by simp)).c0; have z1 := (S2.live (br, s) (by simp)).c1; have z2 := (S2.live (br, s) (by simp)).c2; have z3 := (S2.live (br, s) (by simp)).c3; obtain ⟨f0, f1, f2, f3⟩ := (S2.wrt br (by simp)).1; have S3 := Hn (S2.set (b := br) (M := [(w.heap.size + 1 + 1, zero4)]) t (old := s) (by simp) (by omega) (by simp; omega)); have P3 := Hn (P2.far4 (c := br) (by omega) t); have HT := Hn ht; clear S2 P2 ht hb))
     all_goals
      clear c0 c1 c2 c3 cp z0 z1 z2 z3 f0 f1 f2 f3
      go_wp2_with fail
      go_roundw
      case rel => exact ⟨d + 1, t, by omega, by rw [show (15 : Int) - ((d + 1 : Nat) : Int) = (m : Int) - 1 by have := HM.out; omega], TN.out s t HS.out HT.out, S3, P3⟩
      case measure => simp [intOf]
    ·have hdd : d = 16 := by omega
     subst hdd
     rw [show (15 : Int) - ((16 : Nat) : Int) = -1 from rfl]
     have HR := Hn hr
     have v0 := (hst.out.live (br, r) (by simp)).c0
     have v1 := (hst.out.live (br, r) (by simp)).c1
     have v2 := (hst.out.live (br, r) (by simp)).c2
     have v3 := (hst.out.live (br, r) (by simp)).c3
     have d0 := (hst.out.live (w.heap.size + 1 + 1, zero4) (by simp)).c0
     have d1 := (hst.out.live (w.heap.size + 1 + 1, zero4) (by simp)).c1
     have d2 := (hst.out.live (w.heap.size + 1 + 1, zero4) (by simp)).c2
     have d3 := (hst.out.live (w.heap.size + 1 + 1, zero4) (by simp)).c3
     obtain ⟨f0, f1, f2, f3⟩ := (hst.out.wrt (w.heap.size + 1 + 1) (by simp)).1
     have BE := Hn hst.out.bel
     clear hr hst hpr
     go_wp2_with fail
     refine bodyPost_ret (v := .agg #[.int .u64 r.x0, .int .u64 r.x1, .int .u64 r.x2, .int .u64 r.x3]) (by simp [results, Tryz.results50, go_sem, d0, d1, d2, d3]) rfl ⟨r, rfl, ?_, ?_⟩
     ·have h := HR.out
      rw [TV.out] at h
      exact h
     ·exact set4_below _ _ _ BE.out (by omega)
theorem rMul_any (n m : Int) (w : World) :
  Calls Tryz.prog 50 #[(lst n).v, (lst m).v] w fun e w' => e = .returned (lst (n * m)).v ∧ Below w.heap.size w w' :=
 fix (rMul_raw (lst n) (lst m) w (lst_ok n) (lst_ok m)) (by rw [lst_mul, lst_mul'])
end Go.Proofs.YtghcfcglakbkeaaGreatDoor
