import Derived.Test.YthhcdjndfepbaaaAiv
import Derived.Test.YthhcdjndfepbaaaAcl
namespace Go.Proofs.Ythhcdjndfepbaaa
open Go.RowKit
/-- Newton's steps, up to places that lie so far apart -/
structure Nw (n a : Nat) (X Y f : Nat → Int) (F : Nat → Nat → Int) : Prop where
  d : Mx.Dd 7 n a X Y F
  e : ∀ i, i < n → f i = F (min i (a - 1)) i
  u : ∀ k i, 1 ≤ k → k < a → i + k < n → ¬ Mx.C 7 (X (i + k)) (X i)
theorem Nw.start (n : Nat) (X Y : Nat → Int) : Nw n 1 X Y Y (fun _ i => Y i) := ⟨⟨fun _ _ => rfl, fun k i h => absurd h (by omega)⟩, fun _ _ => rfl, fun k i h1 h2 => absurd h1 (by omega)⟩
/-- one step: from the end on, the places from m on are done -/
structure Nc (n a m : Nat) (X f f' : Nat → Int) : Prop where
  o : ∀ j, j < n → j < m → f' j = f j
  s : ∀ j, m ≤ j → j < n → Mx.C 7 (f' j * (X j - X (j - a))) (f j - f (j - 1))
theorem Nw.next {n a : Nat} {X Y f f' : Nat → Int} {F : Nat → Nat → Int} (h : Nw n a X Y f F) (ha : 1 ≤ a) (c : Nc n a a X f f') (u : ∀ i, i + a < n → ¬ Mx.C 7 (X (i + a)) (X i)) : Nw n (a + 1) X Y f' (fun k i => if k = a then f' i else F k i) := by
  refine ⟨⟨fun i hi => ?_, fun k i h1 h2 h3 => ?_⟩, fun i hi => ?_, fun k i h1 h2 h3 => ?_⟩
  · rw [if_neg (by omega)]; exact h.d.z i hi
  · by_cases e : k + 1 = a
    · rw [if_pos e, if_neg (by omega), if_neg (by omega), e]
      have q := c.s i (by omega) h3
      rw [h.e i h3, h.e (i - 1) (by omega), show min i (a - 1) = k by omega, show min (i - 1) (a - 1) = k by omega] at q
      exact q
    · rw [if_neg e, if_neg (by omega), if_neg (by omega)]; exact h.d.s k i (by omega) h2 h3
  · rw [Nat.add_sub_cancel]
    by_cases e : i < a
    · rw [show min i a = i by omega, if_neg (by omega), c.o i hi e, h.e i hi, show min i (a - 1) = i by omega]
    · rw [show min i a = a by omega, if_pos rfl]
  · by_cases e : k = a
    · subst e; exact u i h3
    · exact h.u k i h1 (by omega) h3
theorem Nc.next {n a i : Nat} {X f f' h r : Nat → Int} {y z : Int} (c : Nc n a (i + 1) X f f') (hi : i < n) (ha : a ≤ i) (h1 : 1 ≤ a) (hq : Mx.C 7 (h (i - a)) (X i - X (i - a))) (hr : Mx.C 7 (h (i - a) * r (i - a)) 1) (hy : Mx.C 7 y (f' i - f' (i - 1))) (hz : Mx.C 7 z (y * r (i - a))) : Nc n a i X f (fun j => if j = i then z else f' j) := by
  refine ⟨fun j h2 h3 => by rw [if_neg (by omega)]; exact c.o j h2 (by omega), fun j h2 h3 => ?_⟩
  by_cases e : j = i
  · subst e
    rw [if_pos rfl]
    rw [c.o j hi (by omega), c.o (j - 1) (by omega) (by omega)] at hy
    have q := ((hz.trans (hy.mul Mx.C.rfl)).mul hq.symm).trans (Mx.C.of_eq (show (f j - f (j - 1)) * r (j - a) * h (j - a) = (f j - f (j - 1)) * (h (j - a) * r (j - a)) by grind))
    exact q.trans ((Mx.C.rfl.mul hr).trans (Mx.C.of_eq (Int.mul_one _)))
  · rw [if_neg e]; exact c.s j (by omega) h3
theorem own_slice {w : World} {base n : Nat} {t : TypeId} {v : Value} {xs : List Value} (h : w.ownsRow base t 1 v n xs) : ∃ (R : Option Addr) (c : Nat), v = .slice R n c ∧ n ≤ c := by
  rcases h.2 with ⟨h1, h0⟩ | ⟨g, cap, cur, h1, _, _, hc, _⟩
  · exact ⟨none, 0, by rw [h1, h0], by omega⟩
  · exact ⟨_, cap, h1, hc⟩
/-- what newton answers -/
def NwA (w w' : World) (n : Nat) (X Y : Nat → Int) (v : Value) (er : Int) : Prop := Below w.heap.size w w' ∧ ((er = 60 ∧ v = .slice none 0 0 ∧ ∃ a b, b < a ∧ a < n ∧ Mx.C 7 (X a) (X b)) ∨ (er = 0 ∧ (∀ a b, b < a → a < n → ¬ Mx.C 7 (X a) (X b)) ∧ ∃ (R : Option Addr) (cR : Nat) (st : Nat → Int), v = .slice R n cR ∧ n ≤ cR ∧ Il w' R n st ∧ ∀ t, t < n → Mx.C 7 (Mx.ps st X n (X t)) (Y t)))
set_option maxRecDepth 100000 in
set_option maxHeartbeats 8000000 in
theorem newton_any (P Q : Option Addr) (n cP cQ : Nat) (X Y : Nat → Int) (w : World) (h40 : n ≤ 40) (hP : Il w P n X) (hQ : Il w Q n Y) :
    Calls Try.prog 29 #[.slice P n cP, .slice Q n cQ] w fun e w' => ∃ (v : Value) (er : Int), e = .returned (.tuple #[v, .int .i64 er]) ∧ NwA w w' n X Y v er := by
  have N40 := hidden h40
  have HP := hidden hP
  have CL := hidden (clone_any Q n cQ Y w h40 hQ)
  have nn0 : (0 : Int) ≤ (n : Int) := by omega
  by_cases hn0 : n = 0
  · subst hn0
    clear h40 hP hQ
    go_enter Try.func29, Try.ntmps29
    go_wp2_with (first | (go_at_call 36; refine (CL.out).mono ?_; rintro e wa ⟨v, rfl, ho, ha⟩; obtain ⟨R, cR, rfl, hcR⟩ := own_slice ho; have HA := hidden ha; clear ho ha))
    go_loopw [7] (fun av w' => av = .int .i64 1 ∧ Hid (Below w.heap.size w w')) (fun _ _ => 0)
    case atStart => exact ⟨rfl, HA⟩
    case round =>
      obtain ⟨rfl, hB⟩ := hrel
      go_wp2_with fail
      refine bodyPost_ret (v := .tuple #[.slice R 0 cR, .int .i64 0]) (by simp [results, Try.results29, go_sem]) rfl ⟨_, 0, rfl, hB.out, .inr ⟨rfl, fun a b _ h => absurd h (by omega), R, cR, fun _ => 0, rfl, hcR, ⟨0, 0, fun h => absurd h (by omega), fun k h => absurd h (by omega)⟩, fun t h => absurd h (by omega)⟩⟩
  obtain ⟨sa, oa, hPa, hca⟩ := HP.out
  obtain rfl := hPa (by omega)
  have HX := hidden hca
  clear hPa hca HP hP hQ h40
  go_enter Try.func29, Try.ntmps29
  go_wp2_with (first | (go_at_call 36; refine (CL.out).mono ?_; rintro e wa ⟨v, rfl, ho, ha⟩; obtain ⟨g, cg, rfl, hcg, hgg, hR⟩ := own_rk ho (by omega); have HA := hidden ha; have HGG := hidden hgg; have HR := hidden hR; clear ho ha hgg hR))
  go_loopw [7] (fun av w' => ∃ (a : Nat) (f : Nat → Int) (F : Nat → Nat → Int), 1 ≤ a ∧ a ≤ n ∧ av = .int .i64 (a : Int) ∧ Hid (Nw n a X Y f F) ∧ Hid (Rk w' g 0 n f) ∧ Hid (Below w.heap.size w w')) (fun a _ => n - (intOf a).toNat)
  case atStart => exact ⟨1, Y, _, by omega, by omega, rfl, hidden (Nw.start n X Y), HR, HA⟩
  case round =>
    clear HR HA CL
    obtain ⟨a, f, F, ha1, han, rfl, hW, hR, hB⟩ := hrel
    by_cases hlt : a < n
    · have a0 : (0 : Int) ≤ (a : Int) := by omega
      have a1 : (a : Int) < (n : Int) := by omega
      have w9 : IntKind.i64.wrap ((a : Int) + 1) = (a : Int) + 1 := IntWalk.i64_in _ (by have := N40.out; omega)
      obtain ⟨L, hL⟩ : ∃ L, n = a + L := ⟨n - a, by omega⟩
      have HL := hidden hL
      have w5 : IntKind.i64.wrap ((n : Int) - (a : Int)) = (L : Int) := by rw [IntWalk.i64_in _ (by have := N40.out; omega)]; omega
      have w8 : IntKind.i64.wrap ((n : Int) - 1) = (n : Int) - 1 := IntWalk.i64_in _ (by have := N40.out; omega)
      obtain ⟨i0, hi, hz0, hz1, hz2⟩ := info_parts seveninfo
      have hmk := fun w => run_make (P := Try.prog) w 24 27 i0 (.agg #[.int .i64 0]) (by kernel_rfl) hi hz0 .i64 .i64 (L : Int) (L : Int) (by omega) (Int.le_refl _) (by rw [hz2]; have := N40.out; omega) (by have := N40.out; omega)
      simp only [Int.toNat_natCast, hz1, Nat.mul_one, Value.cells] at hmk
      have G0 := hidden (Rk.made wr L 27)
      have B0 := hidden (bl_alloc wr (.cells (madeCells #[.int .i64 0] L) 27))
      have ll0 : (0 : Int) ≤ (L : Int) := by omega
      clear hL hi hz0 hz1 hz2
      rename World => W
      go_wp2_with fail
      clear hmk w5
      go_loopw [27] (fun iv w' => ∃ (i : Nat) (h : Nat → Int), i ≤ L ∧ iv = .int .i64 (i : Int) ∧ Hid (∀ j, j < i → Mx.C 7 (h j) (X (j + a) - X j) ∧ ¬ Mx.C 7 (h j) 0) ∧ Hid (Rk w' W.heap.size 0 L h) ∧ Hid (Below W.heap.size W w')) (fun i _ => L - (intOf i).toNat)
      case atStart => exact ⟨0, _, by omega, rfl, hidden (fun j hj => absurd hj (by omega)), G0, B0⟩
      case round =>
        clear G0 B0
        obtain ⟨i, h, hiL, rfl, hq, hG, hb⟩ := hrel
        by_cases hil : i < L
        · have i0 : (0 : Int) ≤ (i : Int) := by omega
          have i1 : (i : Int) < (L : Int) := by omega
          have i2 : i + a < n := by have := HL.out; omega
          have i3 : (i : Int) < (n : Int) := by omega
          have v9 : IntKind.i64.wrap ((i : Int) + 1) = (i : Int) + 1 := IntWalk.i64_in _ (by have := N40.out; omega)
          obtain ⟨K, hK⟩ : ∃ K, K = i + a := ⟨_, rfl⟩
          have v8 : IntKind.i64.wrap ((i : Int) + (a : Int)) = (K : Int) := by rw [IntWalk.i64_in _ (by have := N40.out; omega)]; omega
          have v7 : (0 : Int) ≤ (K : Int) := by omega
          have v6 : (K : Int) < (n : Int) := by omega
          have HK := hidden hK
          have HX1 := hidden (cell_keep (cell_keep (HX.out K (by omega)) hB.out) hb.out)
          have HX2 := hidden (cell_keep (cell_keep (HX.out i (by omega)) hB.out) hb.out)
          clear hK
          go_upto_region 9 with fail
          go_cut [44] (fun _ wx => ∃ z : Int, Mx.C 7 z (X K - X i) ∧ Rk wx W.heap.size 0 L (fun j => if j = i then z else h j) ∧ Below W.heap.size W wx)
          case first =>
            have c1 := cell_keep HX1.out (bl_drew _)
            have c2 := cell_keep HX2.out (bl_drew _)
            have SU := hidden (fun w => sSubC (X K) (X i) w)
            have m1 := mt_Sub (X K)
            go_region_with (first | (go_at_call 60; with_reducible refine (SU.out _).mono ?_; rintro e wb ⟨z, rfl, hz, hc⟩; have HZ := hidden hz; have hab := bl_trans (bl_drew wr) hc; have c4 := (hG.out.keep hab).c0 i hil; have f4 := (hG.out.keep hab).f0 i hil; have HAB := hidden hab; clear hz hc hab))
            all_goals
              have YR := hidden ((hG.out.keep HAB.out).set0 i hil z)
              have YB := hidden ((bl_trans hb.out HAB.out).setCell (p := ⟨W.heap.size, i, none⟩) (Nat.le_refl _) (.int .i64 z))
              go_wp2_with fail
              go_meet
              exact ⟨z, HZ.out, YR.out, YB.out⟩
          case rest =>
          obtain ⟨z, hz, hG2, hb2⟩ := hcut
          have HZ := hidden hz
          have HG2 := hidden hG2
          have HB2 := hidden hb2
          clear hG hb HX1 HX2 hG2 hb2 v8 hz
          have c1 : wc.cell? ⟨W.heap.size, i, none⟩ = some (.int .i64 z) := by have := HG2.out.c0 i hil; rwa [if_pos rfl] at this
          have IZ := hidden (fun w => sIsZero_any z w)
          unfold sv at IZ
          have m1 := mt_IsZero z
          by_cases hzz : z % 7 = 0
          · have hd : (z % 7 == 0) = true := by rw [beq_iff_eq]; exact hzz
            simp only [hd] at IZ
            have TW : Hid (∃ a b, b < a ∧ a < n ∧ Mx.C 7 (X a) (X b)) := hidden ⟨K, i, by have := HK.out; omega, by have := HK.out; omega, by
              have q := (HZ.out.symm.trans (Mx.C.of_mod hzz : Mx.C 7 z 0)).add (Mx.C.rfl (x := X i))
              exact (Mx.C.of_eq (by omega)).trans (q.trans (Mx.C.of_eq (by omega)))⟩
            clear hd hzz
            go_wp2_with (first | (go_at_call 57; refine (IZ.out _).mono ?_; rintro e wd ⟨rfl, hd⟩; have HD := hidden (bl_trans (bl_trans hB.out HB2.out) hd); clear hd))
            refine bodyPost_ret (v := .tuple #[.slice none 0 0, .int .i64 60]) (by simp [results, Try.results29, go_sem]) rfl ⟨_, 60, rfl, HD.out, .inl ⟨rfl, rfl, TW.out⟩⟩
          · have hd : (z % 7 == 0) = false := by rw [beq_eq_false_iff_ne]; exact hzz
            simp only [hd] at IZ
            have NQ : Hid (∀ j, j < i + 1 → Mx.C 7 (if j = i then z else h j) (X (j + a) - X j) ∧ ¬ Mx.C 7 (if j = i then z else h j) 0) := hidden (fun j hj => by
              by_cases e : j = i
              · subst e
                rw [if_pos rfl, ← HK.out]
                exact ⟨HZ.out, fun e => hzz e.mod⟩
              · rw [if_neg e]; exact hq.out j (by omega))
            clear hd hzz
            go_wp2_with (first | (go_at_call 57; refine (IZ.out _).mono ?_; rintro e wd ⟨rfl, hd⟩; have HD := hidden (bl_trans HB2.out hd); have HR2 := hidden (HG2.out.keep hd); clear hd))
            go_roundw
            case rel => exact ⟨i + 1, _, by omega, by go_num, NQ, HR2, HD⟩
            case measure => simp [intOf]; omega
        · obtain rfl : i = L := by omega
          clear hil hiL
          have INV := hidden (invertAll_any W.heap.size i i h wr (by have := N40.out; have := HL.out; omega) (fun k hk => hG.out.c0 k hk) (fun k hk => (hq.out k hk).2))
          have UU : Hid (∀ l, l + a < n → ¬ Mx.C 7 (X (l + a)) (X l)) := hidden (fun l hl e => by
            obtain ⟨q1, q2⟩ := hq.out l (by have := HL.out; omega)
            exact q2 (q1.trans ((e.sub Mx.C.rfl).trans (Mx.C.of_eq (by omega)))))
          have QQ : Hid (∀ q, q < i → Mx.C 7 (h q) (X (q + a) - X q)) := hidden (fun q hl => (hq.out q hl).1)
          have hgW : g < W.heap.size := hR.out.lt
          have hWr := hb.out.size
          clear hq hG
          go_wp2_with (first | (go_at_call 37; refine (INV.out).mono ?_; rintro e wi ⟨I, r, rfl, hI, hRI, hr, hi⟩; have HS := hidden (hR.out.keep (bl_trans hb.out hi)); have HRI := hidden hRI; have HRR := hidden hr; have HBI := hidden (bl_trans hB.out (bl_trans hb.out hi)); clear hRI hr hi))
          have hgI : g ≠ I := by omega
          clear INV hR hb hB hI hWr hgW w8
          go_loopw [11] (fun jv w' => ∃ (m : Nat) (f' : Nat → Int), a ≤ m ∧ m ≤ n ∧ jv = .int .i64 ((m : Int) - 1) ∧ Hid (Nc n a m X f f') ∧ Hid (Rk w' g 0 n f') ∧ Hid (Rk w' I 0 i r) ∧ Hid (Below w.heap.size w w')) (fun j _ => (intOf j + 1).toNat)
          case atStart => exact ⟨n, f, by omega, by omega, rfl, hidden ⟨fun _ _ _ => rfl, fun j h1 h2 => absurd h1 (by omega)⟩, HS, HRI, HBI⟩
          case round =>
            clear HS HRI HBI
            obtain ⟨m, f', hm1, hm2, rfl, hN, hR, hI, hB⟩ := hrel
            by_cases hm : a < m
            · obtain ⟨j, rfl⟩ : ∃ j, m = j + 1 := ⟨m - 1, by omega⟩
              rw [show ((j + 1 : Nat) : Int) - 1 = (j : Int) by omega]
              obtain ⟨p, hp⟩ : ∃ p, j = p + 1 := ⟨j - 1, by omega⟩
              obtain ⟨q, hq⟩ : ∃ q, j = q + a := ⟨j - a, by omega⟩
              have hqi : q < i := by have := HL.out; omega
              have hjn : j < n := by omega
              have hpn : p < n := by omega
              have j0 : (0 : Int) ≤ (j : Int) := by omega
              have j1 : (j : Int) < (n : Int) := by omega
              have j2 : (a : Int) ≤ (j : Int) := by omega
              have p0 : (0 : Int) ≤ (p : Int) := by omega
              have p1 : (p : Int) < (n : Int) := by omega
              have q0 : (0 : Int) ≤ (q : Int) := by omega
              have q1 : (q : Int) < (i : Int) := by omega
              have v5 : IntKind.i64.wrap ((j : Int) - 1) = (p : Int) := by rw [IntWalk.i64_in _ (by have := N40.out; omega)]; omega
              have v4 : IntKind.i64.wrap ((j : Int) - (a : Int)) = (q : Int) := by rw [IntWalk.i64_in _ (by have := N40.out; omega)]; omega
              have HPJ := hidden hp
              have HQJ := hidden hq
              have NN : Hid (∀ y z, Mx.C 7 y (f' j - f' p) → Mx.C 7 z (y * r q) → Nc n a j X f (fun l => if l = j then z else f' l)) := hidden (fun y z hy hz => by
                have e1 : j - a = q := by omega
                have e2 : j - 1 = p := by omega
                have q2 := QQ.out q hqi
                rw [← hq] at q2
                exact hN.out.next (h := h) (r := r) (y := y) hjn (by omega) ha1 (by rw [e1]; exact q2) (by rw [e1]; exact HRR.out q hqi) (by rw [e2]; exact hy) (by rw [e1]; exact hz))
              clear hp hq hN
              have c1 := cell_keep (hR.out.c0 j hjn) (bl_drew _)
              have c2 := cell_keep (hR.out.c0 p hpn) (bl_drew _)
              have c3 := cell_keep (hI.out.c0 q hqi) (bl_drew _)
              have SU := hidden (fun w => sSubC (f' j) (f' p) w)
              have MU := hidden (fun (t : Int) w => sMulC t (r q) w)
              have m1 := mt_Sub (f' j)
              have m2 := fun t => mt_Mul t
              go_upto_region 17 with fail
              go_region_with (first | (go_at_call 60; with_reducible refine (SU.out _).mono ?_; rintro e wb ⟨y, rfl, hy, ha⟩; have HY := hidden hy; have c4 := cell_keep c3 ha; have HA := hidden ha; clear ha hy) | (go_at_call 58; with_reducible refine (MU.out _ _).mono ?_; rintro e wc ⟨z, rfl, hz, hb⟩; have HZ := hidden hz; have hab := bl_trans (bl_trans (bl_drew wr) HA.out) hb; have f5 := (hR.out.keep hab).f0 j hjn; have c5 := (hR.out.keep hab).c0 j hjn; have HAB := hidden hab; clear hab hb hz))
              all_goals
                have N1 := hidden (NN.out y z HY.out HZ.out)
                have R1 := hidden ((hR.out.keep HAB.out).set0 j hjn z)
                have I1 := hidden ((hI.out.keep HAB.out).but ((But.refl g wc).set (o := j) (.int .i64 z)) (Ne.symm hgI))
                have B1 := hidden ((bl_trans hB.out HAB.out).setCell (p := ⟨g, j, none⟩) HGG.out (.int .i64 z))
                have E1 : Hid ((p : Int) = (j : Int) - 1) := hidden (by have := HPJ.out; omega)
                clear c1 c2 c3 c4 c5 f5 m1 m2 hB hR hI
                go_wp2_with fail
                go_roundw
                case rel => exact ⟨j, _, by omega, by omega, by rw [E1.out], N1, R1, I1, B1⟩
                case measure => simp [intOf]; have := HPJ.out; omega
            · obtain rfl : m = a := by omega
              have na : ¬ ((m : Int) ≤ (m : Int) - 1) := by omega
              have N1 := hidden (hW.out.next ha1 hN.out UU.out)
              clear hm hN hW
              go_wp2_with fail
              go_roundw
              case rel => exact ⟨m + 1, f', _, by omega, by omega, by go_num, N1, hR, hB⟩
              case measure => simp [intOf]; omega
    · obtain rfl : a = n := by omega
      clear hlt
      have ST : Hid (∀ t, t < a → Mx.C 7 (Mx.ps f X a (X t)) (Y t)) := hidden (fun t ht => hW.out.d.meets (fun i hi => by rw [hW.out.e i hi, show min i (a - 1) = i by omega]) t ht)
      have UN : Hid (∀ c b, b < c → c < a → ¬ Mx.C 7 (X c) (X b)) := hidden (fun c b h1 h2 => by
        have := hW.out.u (c - b) b (by omega) (by omega) (by omega)
        rwa [show b + (c - b) = c by omega] at this)
      go_wp2_with fail
      refine bodyPost_ret (v := .tuple #[.slice (some ⟨g, 0, none⟩) a cg, .int .i64 0]) (by simp [results, Try.results29, go_sem]) rfl ⟨_, 0, rfl, hB.out, .inr ⟨rfl, UN.out, some ⟨g, 0, none⟩, cg, f, rfl, hcg, hR.out.il, ST.out⟩⟩
end Go.Proofs.Ythhcdjndfepbaaa
