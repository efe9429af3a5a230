import Derived.Test.YtagfneojcgcigaaDoorUf
namespace Go.Proofs.YtagfneojcgcigaaDoor.Tr
open Go.RowKit
/-- what Draw leaves -/
def DrawR (w : World) (base s : Nat) (vH : Value) (es : List (En × Em)) (l : List UInt8) (z : E4) (er : Int) (m' : Nat) (g' : Nat → E4) (e : Ending) (w' : World) : Prop := ∃ (vn : Value) (x : Em) (PL : Option Addr) (d : Nat), e = .returned (.tuple #[z.v, .int .i64 er]) ∧ B3 w' s 54 (.slice PL m' d) vn (.bool true) ∧ m' ≤ d ∧ Lf w' s PL m' g' ∧ Hr w' base vn (es ++ [(⟨true, l, []⟩, x)]) ∧ (vn.ownBlock = vH.ownBlock ∨ ∃ g, vn.ownBlock = some g ∧ w.heap.size ≤ g) ∧ Bt (fun k => k = s ∨ vH.ownBlock = some k) w w'
theorem Pt.empty (w : World) (P : Option Addr) (q : Nat → Option Addr) (c : Nat → Nat) : Pt w P [] q c := ⟨fun h => absurd h (by simp), fun i hi => absurd hi (by simp)⟩
theorem PtIn.empty (B : Nat → Prop) (P : Option Addr) (q : Nat → Option Addr) : PtIn B P [] q := ⟨fun h => absurd h (by simp), fun i hi => absurd hi (by simp)⟩
theorem hr_put {w : World} {base : Nat} {vH : Value} {es : List (En × Em)} (h : Hr w base vH es) {b : Nat} (z : E4) (h1 : vH.ownBlock ≠ some b) (h2 : ∀ x ∈ es, PtIn (fun k => k ≠ b) x.2.P x.1.ps x.2.q) : Hr (put4 w b z) base vH es :=
  h.keep (by rw [put4_size]; exact Nat.le_refl _) (fun k hk => put4_ne w b k z (fun e => h1 (e ▸ hk))) h2 (fun k hk _ _ => put4_ne w b k z hk)
theorem bt_put {S : Nat → Prop} {w w1 : World} {b : Nat} (h : Bt S w w1) (z : E4) (hb : w.heap.size ≤ b) : Bt S w (put4 w1 b z) :=
  ⟨h.os, h.tape, h.output, by rw [put4_size]; exact h.size, fun k hk hs => (put4_ne w1 b k z (by omega)).trans (h.block k hk hs)⟩
theorem tb_keep {S : Nat → Prop} {w w' : World} (h : Go.Proofs.YtagfneojcgcigaaDoor.Tb w) (hb : Bt S w w') (hS : ¬ S 0) : Go.Proofs.YtagfneojcgcigaaDoor.Tb w' := by
  have k : ∀ (j : Nat) (v : Value), w.cell? ⟨0, j, none⟩ = some v → w'.cell? ⟨0, j, none⟩ = some v := fun j v h => (World.cell?_of_block (a := ⟨0, j, none⟩) (hb.block 0 (World.block_lt_of_cell? w ⟨0, j, none⟩ h) hS)).trans h
  obtain ⟨h0, h1, h2, h3, h4, h5, h6, h7, h8, h9, h10, h11⟩ := h
  exact ⟨k _ _ h0, k _ _ h1, k _ _ h2, k _ _ h3, k _ _ h4, k _ _ h5, k _ _ h6, k _ _ h7, k _ _ h8, k _ _ h9, k _ _ h10, k _ _ h11⟩
set_option maxRecDepth 100000 in
set_option maxHeartbeats 8000000 in
theorem draw_any (s base : Nat) (PL : Option Addr) (m d : Nat) (g : Nat → E4) (vH : Value) (es : List (En × Em)) (l : List UInt8) (w : World) (hT : Go.Proofs.YtagfneojcgcigaaDoor.Tb w) (hok : ∀ k, k < m → (g k).ok) (hX : B3 w s 54 (.slice PL m d) vH (.bool true)) (hd : m ≤ d) (hL : Lf w s PL m g) (hsb : s < base) (hbs : base ≤ w.heap.size) (hH : Hr w base vH es) (hn : es.length ≤ 2513169434879) (ht0 : 0 < s) :
    Calls Tryd.prog 10 #[.pointer (some ⟨s, 0, none⟩), .string (sb l)] w fun e w' => DrawR w base s vH es l (if m = 0 then ⟨0, 0, 0, 0⟩ else lst (g 0).n) (if m = 0 then 5 else if (g 0).n % Sm.L = 0 then 4 else 0) (m - 1) (fun k => g (k + 1)) e w' := by
  have HT := hidden hT
  have HOK := hidden hok
  have HD := hidden hd
  have HSB := hidden hsb
  have HBS := hidden hbs
  have HNL := hidden hn
  have C0 := hidden (none_any s (.slice PL m d) vH (w.alloc (.cells #[.int .u64 0, .int .u64 0, .int .u64 0, .int .u64 0] 27)) (hX.keep (bl_alloc w _) hX.lt))
  obtain ⟨i0, hi, hz0, hz1, hz2⟩ := info_parts info50
  have HI := hidden hi
  have HZ0 := hidden hz0
  have HZ1 := hidden hz1
  have HZ2 := hidden hz2
  have HU : Hid (Tryd.prog.underlying 46 = some (.slice 50)) := hidden (by kernel_rfl)
  have HX := hidden (hX.keep (bl_alloc w (.cells #[.int .u64 0, .int .u64 0, .int .u64 0, .int .u64 0] 27)) hX.lt)
  have HL := hidden (hL.keep (w' := w.alloc (.cells #[.int .u64 0, .int .u64 0, .int .u64 0, .int .u64 0] 27)) (fun k hk => heap_alloc_old w _ (by have := hX.lt; omega)))
  have HH := hidden (hH.stay (bl_alloc w (.cells #[.int .u64 0, .int .u64 0, .int .u64 0, .int .u64 0] 27)))
  have X4 : Hid (B4 (w.alloc (.cells #[.int .u64 0, .int .u64 0, .int .u64 0, .int .u64 0] 27)) w.heap.size 27 ⟨0, 0, 0, 0⟩) := hidden (heap_alloc_new w _)
  have HB := hidden (bl_alloc w (.cells #[.int .u64 0, .int .u64 0, .int .u64 0, .int .u64 0] 27))
  have HXW := hidden hX.lt
  have HVB := hidden (fun k hk => (hH.list.lt k hk).2)
  have HFE := hidden (fun x hx => (hH.far x hx).mono (B' := fun k => k ≠ w.heap.size) (fun k hk => by have := hk.2.1; omega))
  have HVL := hidden (fun k hk => (hH.list.lt k hk).1)
  clear hT hok hX hd hL hsb hbs hH hn hi hz0 hz1 hz2
  obtain ⟨zz, hzz⟩ : ∃ zz : E4, zz = if m = 0 then ⟨0, 0, 0, 0⟩ else lst (g 0).n := ⟨_, rfl⟩
  obtain ⟨ee, hee⟩ : ∃ ee : Int, ee = if m = 0 then 5 else if (g 0).n % Sm.L = 0 then 4 else 0 := ⟨_, rfl⟩
  rw [← hzz, ← hee]
  have HZZ := hidden hzz
  have HEE := hidden hee
  clear hzz hee
  go_enter Tryd.func10, Tryd.ntmps10
  go_upto_region 1 with fail
  obtain ⟨N, hN⟩ : ∃ N, w.heap.size = N := ⟨_, rfl⟩
  have HN := hidden hN
  rw [hN] at X4 HBS HXW HVB HFE
  rw [hN]
  clear hN
  generalize w.alloc (.cells #[.int .u64 0, .int .u64 0, .int .u64 0, .int .u64 0] 27) = w1 at C0 HX HL HH X4 HB ⊢
  go_upto_region 3 with (first | (go_at_call 16; refine C0.out.mono ?_; rintro e w2 ⟨rfl, hb⟩; have L2 := hidden (HL.out.keep (w' := w2) (fun k hk => hb.block k (by have := HX.out.lt; omega))); have X2 := hidden (HX.out.keep hb HX.out.lt); have H2 := hidden (HH.out.stay hb); have Y2 := hidden (X4.out.keep hb X4.out.lt); have B2 := hidden (bl_trans HB.out hb); clear hb))
  clear C0 HX HL HH X4 HB
  have y0 := X2.out.c1
  go_upto_region 4 with (first | (at_builtin; refine wpList_append_own_at _ rfl _ _ 46 rfl base 50 i0 (.agg #[.bool false, .string .empty, .slice none 0 0]) 3 48 HU.out HI.out HZ0.out HZ1.out HZ2.out rfl (by decide) vH es.length (sdc es) rfl (H2.out.list.alloc _) ⟨w2.heap.size, 0, none⟩ 1 1 [.bool true, .string (sb l), .slice none 0 0] rfl rfl (cells_new w2 _ _) (by simp [Value.oneCell']) (by have := HNL.out; unfold maxLen; omega) (by have := HNL.out; omega) (by have := HBS.out; have := B2.out.size; rw [HN.out] at this; simp; omega) ?_; intro v6 w6 how6 hgr6 hnil6 hat6; obtain ⟨g6, c6, rfl, hc6⟩ := own_some4 how6 (by omega); have nS : some s ≠ vH.ownBlock := (fun e => by have := (H2.out.list.lt s e.symm).1; have := HSB.out; omega); have nN : some N ≠ vH.ownBlock := (fun e => by have := HVB.out N e.symm; omega); have X6 := hidden (X2.out.blk (grown_blk hgr6 X2.out.lt nS)); have z0 := X6.out.c1; have z1 := X6.out.f 1))
  have H6 := hidden (H2.out.add (x := (⟨true, l, []⟩, ⟨none, 0, fun _ => none, fun _ => 0⟩)) (by have := HBS.out; have := B2.out.size; rw [HN.out] at this; omega) (Below.refl _ _) (Pt.empty _ _ _ _) (PtIn.empty _ _ _) hgr6 how6 hat6)
  have H7 := hidden (H6.out.set HSB.out 1 (.slice (some ⟨g6, 0, none⟩) (es.length + 1) c6))
  have X7 := hidden (X6.out.set1 (.slice (some ⟨g6, 0, none⟩) (es.length + 1) c6))
  have KB : ∀ k, k < w2.heap.size → some k ≠ vH.ownBlock → k ≠ s → (w6.setCell ⟨s, 1, none⟩ (.slice (some ⟨g6, 0, none⟩) (es.length + 1) c6)).heap[k]? = w2.heap[k]? := fun k h1 h2 h3 => (set_ne w6 s 1 k _ h3).trans (grown_blk hgr6 h1 h2)
  have L7 := hidden (L2.out.keep (w' := w6.setCell ⟨s, 1, none⟩ (.slice (some ⟨g6, 0, none⟩) (es.length + 1) c6)) (fun k hk => KB k (by have := X2.out.lt; omega) (fun e => by have := (H2.out.list.lt k e.symm).1; have := HSB.out; omega) (by omega)))
  have Y7 := hidden (Y2.out.blk (KB N Y2.out.lt nN (by have := HXW.out; omega)))
  have T7 := hidden ((((Bt.of (S := fun k => k = s ∨ vH.ownBlock = some k) B2.out).trans (Bt.of (bl_alloc w2 _))).grownS hgr6 (fun k hk => Or.inl (Or.inr hk))).trans (Bt.set (Or.inl rfl) 1 (.slice (some ⟨g6, 0, none⟩) (es.length + 1) c6)))
  have O7 : Hid ((Value.slice (some ⟨g6, 0, none⟩) (es.length + 1) c6).ownBlock = vH.ownBlock ∨ ∃ g, (Value.slice (some ⟨g6, 0, none⟩) (es.length + 1) c6).ownBlock = some g ∧ w.heap.size ≤ g) := hidden (by
    rcases hat6 with h | h
    · exact Or.inl h
    · exact Or.inr ⟨_, h, by have := B2.out.size; simp; omega⟩)
  have TB7 : Hid (∀ w', Bt (fun k => k = s ∨ vH.ownBlock = some k) w w' → Go.Proofs.YtagfneojcgcigaaDoor.Tb w') := hidden (fun w' hb => tb_keep HT.out hb (fun e => by rcases e with e | e; (have := ht0; omega); (have := (HVL.out 0 e); have := HSB.out; omega)))
  have VN : Hid ((Value.slice (some ⟨g6, 0, none⟩) (es.length + 1) c6).ownBlock ≠ some N) := hidden (fun e => by
    rcases hat6 with h | h
    · exact nN (h.symm.trans e).symm
    · have h3 := Option.some.inj (h.symm.trans e)
      have h4 := Y2.out.lt
      simp at h3
      omega)
  have FE : Hid (∀ x ∈ es ++ [((⟨true, l, []⟩, ⟨none, 0, fun _ => none, fun _ => 0⟩) : En × Em)], PtIn (fun k => k ≠ N) x.2.P x.1.ps x.2.q) := hidden (fun x hx => by
    rcases List.mem_append.1 hx with hx | hx
    · exact HFE.out x hx
    · simp only [List.mem_singleton] at hx
      subst hx
      exact PtIn.empty _ _ _)
  clear KB how6 hgr6 hnil6 hat6 nS nN z0 z1 y0 H6 X6 H2 X2 L2 Y2 B2
  obtain ⟨v7, hv7⟩ : ∃ v7, v7 = Value.slice (some ⟨g6, 0, none⟩) (es.length + 1) c6 := ⟨_, rfl⟩
  rw [← hv7] at H7 X7 L7 Y7 T7 O7 VN ⊢
  clear hv7
  generalize w6.setCell ⟨s, 1, none⟩ v7 = w7 at H7 X7 L7 Y7 T7 ⊢
  have y0 := X7.out.c0
  by_cases hm : m = 0
  · subst hm
    have b0 := Y7.out.c0; have b1 := Y7.out.c1; have b2 := Y7.out.c2; have b3 := Y7.out.c3
    have g0 := Y7.out.f 0; have g1 := Y7.out.f 1; have g2 := Y7.out.f 2; have g3 := Y7.out.f 3
    have R1 := hidden (Y7.out.put ⟨0, 0, 0, 0⟩)
    have RX := hidden (X7.out.blk (put4_ne w7 N s ⟨0, 0, 0, 0⟩ (by have := HXW.out; omega)))
    have RH := hidden (hr_put H7.out (b := N) ⟨0, 0, 0, 0⟩ VN.out FE.out)
    have RT := hidden (bt_put T7.out (b := N) ⟨0, 0, 0, 0⟩ (by rw [HN.out]; exact Nat.le_refl _))
    unfold put4 at R1 RX RH RT
    go_wp2_with fail
    have c0 := R1.out.c0; have c1 := R1.out.c1; have c2 := R1.out.c2; have c3 := R1.out.c3
    refine bodyPost_ret (v := .tuple #[.agg #[.int .u64 0, .int .u64 0, .int .u64 0, .int .u64 0], .int .i64 5]) (by simp only [results, Tryd.results10]; simp [go_sem, c0, c1, c2, c3]) rfl ⟨_, _, PL, d, by rw [HZZ.out, HEE.out]; simp [E4.v], RX.out, HD.out, ⟨0, 0, fun h => absurd h (by omega), fun h => absurd h (by omega)⟩, RH.out, O7.out, RT.out⟩
  · obtain ⟨gL, o, hL1, hL2⟩ := L7.out
    obtain ⟨rfl, hgs⟩ := hL1 (by omega)
    have hr := hL2 (by omega)
    have HRL := hidden hr
    have x0 := hr.c0 0 (by omega); have x1 := hr.c1 0 (by omega); have x2 := hr.c2 0 (by omega); have x3 := hr.c3 0 (by omega)
    simp only [Nat.zero_mul, Nat.add_zero] at x0 x1 x2 x3
    have m0 : ¬ (m : Int) = 0 := by omega
    have m1 : (0 : Int) < (m : Int) := by omega
    have m2 : (1 : Int) ≤ (m : Int) := by omega
    have m3 : (m : Int) ≤ (d : Int) := by have := HD.out; omega
    have CH := hidden (fun w T => challenge_any (g 0) w T (HOK.out 0 (by omega)))
    simp only [E4.v] at CH
    clear hL1 hL2 hr
    go_upto_region 7 with fail
    have X8 := hidden (X7.out.keep (bl_alloc w7 (.cells #[.int .u64 (g 0).x0, .int .u64 (g 0).x1, .int .u64 (g 0).x2, .int .u64 (g 0).x3] 27)) X7.out.lt)
    have Y8 := hidden (Y7.out.keep (bl_alloc w7 (.cells #[.int .u64 (g 0).x0, .int .u64 (g 0).x1, .int .u64 (g 0).x2, .int .u64 (g 0).x3] 27)) Y7.out.lt)
    have H8 := hidden (H7.out.stay (bl_alloc w7 (.cells #[.int .u64 (g 0).x0, .int .u64 (g 0).x1, .int .u64 (g 0).x2, .int .u64 (g 0).x3] 27)))
    have R8 := hidden (HRL.out.keep (bl_alloc w7 (.cells #[.int .u64 (g 0).x0, .int .u64 (g 0).x1, .int .u64 (g 0).x2, .int .u64 (g 0).x3] 27)))
    have T8 := hidden (T7.out.trans (Bt.of (bl_alloc w7 (.cells #[.int .u64 (g 0).x0, .int .u64 (g 0).x1, .int .u64 (g 0).x2, .int .u64 (g 0).x3] 27))))
    have Z8 : Hid (B4 (w7.alloc (.cells #[.int .u64 (g 0).x0, .int .u64 (g 0).x1, .int .u64 (g 0).x2, .int .u64 (g 0).x3] 27)) w7.heap.size 27 (g 0)) := hidden (heap_alloc_new w7 _)
    have HM8 : Hid (s < w7.heap.size ∧ N < w7.heap.size) := hidden ⟨X7.out.lt, Y7.out.lt⟩
    generalize w7.alloc (.cells #[.int .u64 (g 0).x0, .int .u64 (g 0).x1, .int .u64 (g 0).x2, .int .u64 (g 0).x3] 27) = w8 at X8 Y8 H8 R8 T8 Z8 ⊢
    obtain ⟨M, hM⟩ : ∃ M, w7.heap.size = M := ⟨_, rfl⟩
    rw [hM] at Z8 HM8
    rw [hM]
    clear hM X7 Y7 H7 HRL T7 x0 x1 x2 x3 y0
    have y0 := X8.out.c0
    have f0 := X8.out.f 0
    have TAIL : Hid (∀ (PL' : Option Addr) (d' : Nat), m - 1 ≤ d' → (0 < m - 1 → PL' = some ⟨gL, o + 4, none⟩) → ∀ w9, w9 = w8.setCell ⟨s, 0, none⟩ (.slice PL' (m - 1) d') → B3 w9 s 54 (.slice PL' (m - 1) d') v7 (.bool true) ∧ B4 w9 N 27 ⟨0, 0, 0, 0⟩ ∧ B4 w9 M 27 (g 0) ∧ Hr w9 base v7 (es ++ [((⟨true, l, []⟩, ⟨none, 0, fun _ => none, fun _ => 0⟩) : En × Em)]) ∧ Lf w9 s PL' (m - 1) (fun k => g (k + 1)) ∧ Bt (fun k => k = s ∨ vH.ownBlock = some k) w w9) := hidden (fun PL' d' hd' hP w9 hw9 => by
      subst hw9
      have hn : ∀ k, k ≠ s → (w8.setCell ⟨s, 0, none⟩ (.slice PL' (m - 1) d')).heap[k]? = w8.heap[k]? := fun k hk => set_ne w8 s 0 k _ hk
      refine ⟨X8.out.set0 _, Y8.out.blk (hn N (by have := HXW.out; omega)), Z8.out.blk (hn M (by have := HM8.out.1; omega)), H8.out.set HSB.out 0 _, ⟨gL, o + 4, fun h => ⟨hP h, hgs⟩, fun h => ?_⟩, T8.out.trans (Bt.set (Or.inl rfl) 0 _)⟩
      have e := hn gL (by omega)
      have R := R8.out
      refine ⟨fun k hk => ?_, fun k hk => ?_, fun k hk => ?_, fun k hk => ?_⟩
      · have := (World.cell?_of_block (a := ⟨gL, o + (k + 1) * 4, none⟩) e).trans (R.c0 (k + 1) (by omega))
        rw [show o + 4 + k * 4 = o + (k + 1) * 4 by omega]; exact this
      · have := (World.cell?_of_block (a := ⟨gL, o + (k + 1) * 4 + 1, none⟩) e).trans (R.c1 (k + 1) (by omega))
        rw [show o + 4 + k * 4 = o + (k + 1) * 4 by omega]; exact this
      · have := (World.cell?_of_block (a := ⟨gL, o + (k + 1) * 4 + 2, none⟩) e).trans (R.c2 (k + 1) (by omega))
        rw [show o + 4 + k * 4 = o + (k + 1) * 4 by omega]; exact this
      · have := (World.cell?_of_block (a := ⟨gL, o + (k + 1) * 4 + 3, none⟩) e).trans (R.c3 (k + 1) (by omega))
        rw [show o + 4 + k * 4 = o + (k + 1) * 4 by omega]; exact this)
    by_cases hd1 : d = 1
    · subst hd1
      obtain rfl : m = 1 := by have := HD.out; omega
      go_upto_region 8 with fail
      obtain ⟨x9, y9, z9, h9, l9, t9⟩ := TAIL.out (some ⟨gL, o, none⟩) 0 (Nat.le_refl _) (fun h => absurd h (by omega)) _ rfl
      have X9 := hidden x9
      have Y9 := hidden y9
      have Z9 := hidden z9
      have H9 := hidden h9
      have L9 := hidden l9
      have T9 := hidden t9
      clear x9 y9 z9 h9 l9 t9 TAIL y0 f0 X8 Y8 Z8 H8 R8 T8
      generalize w8.setCell ⟨s, 0, none⟩ (.slice (some ⟨gL, o, none⟩) 0 0) = w9 at X9 Y9 Z9 H9 L9 T9 ⊢
      have TB := hidden (TB7.out _ T9.out)
      have x0 := Z9.out.c0; have x1 := Z9.out.c1; have x2 := Z9.out.c2; have x3 := Z9.out.c3
      have HZ2' : Hid (zz = lst (g 0).n) := hidden (by rw [HZZ.out, if_neg (by omega)])
      have HE2 : Hid (ee = if (g 0).n % Sm.L = 0 then 4 else 0) := hidden (by rw [HEE.out, if_neg (by omega)])
      rw [← HZ2'.out, ← HE2.out] at CH
      go_wp2_with (first | (go_at_call 18; refine (CH.out _ TB.out).mono ?_; rintro e wa ⟨rfl, hb⟩; have XA := hidden (X9.out.keep hb X9.out.lt); have YA := hidden (Y9.out.keep hb Y9.out.lt); have HA := hidden (H9.out.stay hb); have LA := hidden (L9.out.keep (w' := wa) (fun k hk => hb.block k (by have := X9.out.lt; omega))); have TA := hidden (T9.out.trans (Bt.of hb)); have b0 := YA.out.c0; have b1 := YA.out.c1; have b2 := YA.out.c2; have b3 := YA.out.c3; have g0 := YA.out.f 0; have g1 := YA.out.f 1; have g2 := YA.out.f 2; have g3 := YA.out.f 3; clear hb))
      have R1 := hidden (YA.out.put zz)
      have RX := hidden (XA.out.blk (put4_ne wa N s zz (by have := HXW.out; omega)))
      have RH := hidden (hr_put HA.out (b := N) zz VN.out FE.out)
      have RL := hidden (LA.out.keep (w' := put4 wa N zz) (fun k hk => put4_ne wa N k zz (by have := HXW.out; omega)))
      have RT := hidden (bt_put TA.out (b := N) zz (by rw [HN.out]; exact Nat.le_refl _))
      unfold put4 at R1 RX RH RT RL
      have c0 := R1.out.c0; have c1 := R1.out.c1; have c2 := R1.out.c2; have c3 := R1.out.c3
      refine bodyPost_ret (v := .tuple #[.agg #[.int .u64 zz.x0, .int .u64 zz.x1, .int .u64 zz.x2, .int .u64 zz.x3], .int .i64 ee]) (by simp only [results, Tryd.results10]; simp [go_sem, c0, c1, c2, c3]) rfl ⟨_, _, _, _, rfl, RX.out, by omega, RL.out, RH.out, O7.out, RT.out⟩
    · go_upto_region 8 with fail
      have HD1 : Hid (m - 1 ≤ d - 1) := hidden (by have := HD.out; omega)
      obtain ⟨x9, y9, z9, h9, l9, t9⟩ := TAIL.out (some ⟨gL, o + 4, none⟩) (d - 1) HD1.out (fun _ => rfl) _ rfl
      have X9 := hidden x9
      have Y9 := hidden y9
      have Z9 := hidden z9
      have H9 := hidden h9
      have L9 := hidden l9
      have T9 := hidden t9
      clear x9 y9 z9 h9 l9 t9 TAIL y0 f0 X8 Y8 Z8 H8 R8 T8
      generalize w8.setCell ⟨s, 0, none⟩ (.slice (some ⟨gL, o + 4, none⟩) (m - 1) (d - 1)) = w9 at X9 Y9 Z9 H9 L9 T9 ⊢
      have TB := hidden (TB7.out _ T9.out)
      have x0 := Z9.out.c0; have x1 := Z9.out.c1; have x2 := Z9.out.c2; have x3 := Z9.out.c3
      have HZ2' : Hid (zz = lst (g 0).n) := hidden (by rw [HZZ.out, if_neg (by omega)])
      have HE2 : Hid (ee = if (g 0).n % Sm.L = 0 then 4 else 0) := hidden (by rw [HEE.out, if_neg (by omega)])
      rw [← HZ2'.out, ← HE2.out] at CH
      go_wp2_with (first | (go_at_call 18; refine (CH.out _ TB.out).mono ?_; rintro e wa ⟨rfl, hb⟩; have XA := hidden (X9.out.keep hb X9.out.lt); have YA := hidden (Y9.out.keep hb Y9.out.lt); have HA := hidden (H9.out.stay hb); have LA := hidden (L9.out.keep (w' := wa) (fun k hk => hb.block k (by have := X9.out.lt; omega))); have TA := hidden (T9.out.trans (Bt.of hb)); have b0 := YA.out.c0; have b1 := YA.out.c1; have b2 := YA.out.c2; have b3 := YA.out.c3; have g0 := YA.out.f 0; have g1 := YA.out.f 1; have g2 := YA.out.f 2; have g3 := YA.out.f 3; clear hb))
      have R1 := hidden (YA.out.put zz)
      have RX := hidden (XA.out.blk (put4_ne wa N s zz (by have := HXW.out; omega)))
      have RH := hidden (hr_put HA.out (b := N) zz VN.out FE.out)
      have RL := hidden (LA.out.keep (w' := put4 wa N zz) (fun k hk => put4_ne wa N k zz (by have := HXW.out; omega)))
      have RT := hidden (bt_put TA.out (b := N) zz (by rw [HN.out]; exact Nat.le_refl _))
      unfold put4 at R1 RX RH RT RL
      have c0 := R1.out.c0; have c1 := R1.out.c1; have c2 := R1.out.c2; have c3 := R1.out.c3
      refine bodyPost_ret (v := .tuple #[.agg #[.int .u64 zz.x0, .int .u64 zz.x1, .int .u64 zz.x2, .int .u64 zz.x3], .int .i64 ee]) (by simp only [results, Tryd.results10]; simp [go_sem, c0, c1, c2, c3]) rfl ⟨_, _, _, _, rfl, RX.out, HD1.out, RL.out, RH.out, O7.out, RT.out⟩
end Go.Proofs.YtagfneojcgcigaaDoor.Tr
