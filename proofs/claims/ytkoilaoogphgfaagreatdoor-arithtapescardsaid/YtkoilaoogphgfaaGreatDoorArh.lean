import Derived.Test.YtkoilaoogphgfaaGreatDoorArg
namespace Go.Proofs.YtkoilaoogphgfaaGreatDoor
open Go.RowKit
set_option linter.unusedVariables false
set_option linter.unusedSimpArgs false
open Cm (Wr Tm co bf lf ins Eqm)
namespace Ci
set_option maxRecDepth 100000
set_option maxHeartbeats 16000000
theorem lay_tape (w : World) (cs : List Value) (T : TypeId) (h : cs.length = 34) : Below w.heap.size w ((w.alloc (.cells tz34.toArray T)).setCells w.heap.size 0 cs) ∧ ((w.alloc (.cells tz34.toArray T)).setCells w.heap.size 0 cs).rangeAt w.heap.size 0 cs := by
 have th : (w.alloc (.cells tz34.toArray T)).there w.heap.size 0 cs.length := by rw [h]; exact there_newM w tz34 T
 exact ⟨below_setCellsM w.heap.size cs 0 (bl_alloc w _) (Nat.le_refl _), World.rangeAt_setCells_same _ _ 0 _ th⟩
theorem Size_nil (w : World) : Calls Tryz.prog 6 #[.pointer none] w fun e w' => e = .returned (.int .i64 0) ∧ Below w.heap.size w w' :=
 Size_of (.pointer none) undef (.int .i64 0) undef undef 0 w rfl ((subjectOf_none (.pointer none) w (fun y _ => Clone_nil y)).mono fun e w' ⟨he, hb⟩ => ⟨none, 0, 1, he, hb⟩)
theorem Size_zero (b : Nat) (w : World) (h : w.cell? ⟨b, 3, none⟩ = some (.bool false)) : Calls Tryz.prog 6 #[.pointer (some ⟨b, 0, none⟩)] w fun e w' => e = .returned (.int .i64 0) ∧ Below w.heap.size w w' :=
 Size_of (.pointer (some ⟨b, 0, none⟩)) undef (.int .i64 0) undef undef 0 w rfl ((subjectOf_none (.pointer (some ⟨b, 0, none⟩)) w (fun y hy => Clone_zero b y (cell_keep h hy))).mono fun e w' ⟨he, hb⟩ => ⟨none, 0, 1, he, hb⟩)
theorem Size_sy {base : Nat} {w : World} {s m Kg : Nat} {v : Value} {vs : List Value} {Q : List (List Tm)} (h : Sy base w s m Kg v vs Q) (hq : Q.length ≤ 4096) (hK : Kg ≤ 1024) : Calls Tryz.prog 6 #[.pointer (some ⟨s, 0, none⟩)] w fun e w' => e = .returned (.int .i64 (sz Kg : Int)) ∧ Below w.heap.size w w' :=
 Size_of (.pointer (some ⟨s, 0, none⟩)) undef (.int .i64 (sz Kg : Int)) undef undef (sz Kg : Int) w rfl ((subjectOf_any h hq hK).mono fun e w' ⟨t', he, hb⟩ => ⟨some ⟨t', 0, none⟩, (rd Kg : Int), 0, he, hb⟩)
theorem law_bad (M : Int) (PS : Option Addr) (n c : Nat) (P : Option Addr) (L cap : Nat) (w : World) (hM : M < 0 ∨ 16 < M) : Calls Tryz.prog 3 #[.agg #[.int .i64 M, .slice PS n c], .slice P L cap] w fun e w' => e = .returned (.bool true) ∧ Below w.heap.size w w' := by
 have B0 := hidden (bl_alloc w (.cells #[.int .i64 M, .slice PS n c] 24))
 have C1 := hidden (fun y => build_bad M PS n c y hM)
 have C2 := hidden (fun y => readTape_none (.pointer none) P L cap y (fun z _ => subjectOf_none (.pointer none) z (fun y _ => Clone_nil y)))
 have C3 := hidden Size_nil
 have C4 := hidden Size_zero
 have I2 : Hid ((Tryz.prog.info? 35).map (·.size) = some tz34.toArray.size) := hidden ptinfo
 have O2 := hidden tz34_one
 have THN := hidden (fun y => there_newM y tz34 35)
 have LT := hidden (fun y => (lay_tape y tz34 35 rfl).1)
 clear hM
 generalize hZ : tz34 = zp at C2 I2 O2 THN LT
 have HZ := hidden hZ
 clear hZ
 have ALC : Hid (∀ {ops : Array Oper} {rest : List Oper} {o : Oper} {a : Act} {w : World} {Q : Exit → Act → World → Prop}, o.guard = none → o.op = .alloc 35 → wpList Tryz.prog ops Q rest (a.put o.dst (.pointer (some ⟨w.heap.size, 0, none⟩))) (w.alloc (.cells zp.toArray 35)) → wpList Tryz.prog ops Q (o :: rest) a w) := hidden (by rw [← HZ.out]; exact wpList_ptalloc)
 go_enter Tryz.func3, Tryz.ntmps3
 go_upto_region 3 with (first | (go_at_call 4; refine (C1.out _).mono ?_; rintro e w1 ⟨rfl, hb⟩; have B1 := hidden (bl_trans B0.out hb); clear hb))
 go_upto_region 4 with (first | (go_at_call 5; refine (C2.out _).mono ?_; rintro e w2 ⟨rfl, hb⟩; have B2 := hidden (bl_trans B1.out hb); clear hb) | refine ALC.out rfl rfl ?_ | (refine wpList_storeL rfl 35 _ _ rfl rfl w2.heap.size 0 zp (by rfl) (by rfl) (THN.out w2) I2.out O2.out ?_; have B3 := hidden (bl_trans B2.out (LT.out w2)); generalize World.setCells _ w2.heap.size 0 zp = w3 at *))
 go_wp2_with (first | (have _t := C3; go_at_call 6; refine (C3.out _).mono ?_; rintro e w4 ⟨rfl, hb⟩; have B4 := hidden (bl_trans B3.out hb); clear hb C3) | (go_at_call 6; refine (C4.out _ _ (by go_simp)).mono ?_; rintro e w5 ⟨rfl, hb⟩; have B5 := hidden (bl_trans B4.out (bl_trans (bl_alloc w4 _) hb)); clear hb C4))
 refine bodyPost_ret (v := .bool true) (by simp [results, Tryz.results3, go_sem]) rfl ⟨rfl, B5.out⟩
theorem own_nil8 (w : World) : (w.alloc (.cells #[] 5)).ownsRow w.heap.size 5 1 (.slice (some ⟨w.heap.size, 0, none⟩) 0 0) ([] : List UInt8).length (Tr.cb []) :=
 ⟨rfl, .inr ⟨w.heap.size, 0, #[], rfl, Nat.le_refl _, heap_alloc_new w _, Nat.le_refl _, by unfold maxLen; omega, rfl, rfl⟩⟩
theorem law_ok (m : Nat) (hm : m ≤ 16) (PS : Option Addr) (b o n c : Nat) (gt : Nat → Bool) (L : Nat → Lh) (P : Option Addr) (cap : Nat) (bs : List UInt8) (w : World) (hT : Tb w) (hn : n ≤ 4398046510976) (hP : 0 < n → PS = some ⟨b, o, none⟩) (hA : 0 < n → As w b o n gt L) (hB : Tr.By w P cap bs) (hL : bs.length ≤ 140737488351232) :
  Calls Tryz.prog 3 #[.agg #[.int .i64 (m : Int), .slice PS n c], .slice P bs.length cap] w fun e w' => e = .returned (.bool true) ∧ Below w.heap.size w w' := by
 obtain ⟨M, hM⟩ : ∃ M : Int, (m : Int) = M := ⟨_, rfl⟩
 have B0 := hidden (bl_alloc w (.cells #[.int .i64 M, .slice PS n c] 24))
 have C1 := hidden (build_any m hm PS b o n c gt L (w.alloc (.cells #[.int .i64 M, .slice PS n c] 24)) (hT.keep B0.out) hn hP (fun h => (hA h).keep B0.out))
 rw [hM] at C1 ⊢
 have BY0 := hidden (hB.keep B0.out)
 have HL := hidden hL
 have HT := hidden (hT.keep B0.out)
 have z0 : (w.alloc (.cells #[.int .i64 M, .slice PS n c] 24)).cell? ⟨w.heap.size, 0, none⟩ = some (.int .i64 M) := by go_simp
 have z1 : (w.alloc (.cells #[.int .i64 M, .slice PS n c] 24)).cell? ⟨w.heap.size, 1, none⟩ = some (.slice PS n c) := by go_simp
 clear hT hn hP hA hm hM hB hL
 go_enter Tryz.func3, Tryz.ntmps3
 go_upto_region 1 with fail
 generalize (w.alloc (.cells #[.int .i64 M, .slice PS n c] 24)) = w1 at *
 go_upto_region 2 with (first | (go_at_call 4; refine C1.out.mono ?_; rintro e w2 ⟨t, r, K, Q1, Q2, rfl, pd⟩; have PDR := hidden pd; clear pd))
 clear C1
 have BY2 := hidden (BY0.out.keep PDR.out.bl)
 have B2 := hidden (bl_trans B0.out PDR.out.bl)
 have HT2 := hidden (HT.out.keep PDR.out.bl)
 clear BY0 HT
 go_upto_region 7 with fail
 go_upto_region 8 with (first | (at_builtin; have q1 := own_nil8 w2; have q2 := BY2.out.keep (bl_alloc w2 (.cells #[] 5)); have q3 : ([] : List UInt8).length + bs.length ≤ 2 ^ 47 := (by have := HL.out; simp only [List.length_nil]; omega); have q4 : w2.heap.size ≤ (w2.alloc (.cells #[] 5)).heap.size := (by rw [World.size_alloc]; omega); refine Tr.wpList_app_by rfl _ _ rfl w2.heap.size _ [] bs P cap rfl rfl q1 q2 q3 q4 ?_; intro v3 w3 ho3 hg3; simp only [List.nil_append] at ho3; have O3 := hidden ho3; have B3 : Hid (Below w2.heap.size w2 w3) := hidden ((bl_alloc w2 (.cells #[] 5)).grown hg3 q4 (fun k hk => (q1.lt k hk).1)); have BS := BY2; clear ho3 hg3 q1 q2 q3 q4 BY2) | (at_builtin; have q1 := own_keepT O3.out (bl_alloc w3 (.cells #[.int .u8 201, .int .u8 202] 5)); have q2 : Tr.By (w3.alloc (.cells #[.int .u8 201, .int .u8 202] 5)) (some ⟨w3.heap.size, 0, none⟩) 2 [201, 202] := Tr.by_list w3 [201, 202] 2; have q3 : bs.length + ([201, 202] : List UInt8).length ≤ 2 ^ 47 := (by have := HL.out; simp only [List.length_cons, List.length_nil]; omega); have q4 : w2.heap.size ≤ (w3.alloc (.cells #[.int .u8 201, .int .u8 202] 5)).heap.size := (by rw [World.size_alloc]; have := B3.out.size; omega); refine Tr.wpList_app_by rfl _ _ rfl w2.heap.size _ bs [201, 202] _ 2 rfl rfl q1 q2 q3 q4 ?_; intro v4 w4 ho4 hg4; have O4 := hidden ho4; have B4 : Hid (Below w2.heap.size w2 w4) := hidden ((bl_trans B3.out (bl_alloc w3 (.cells #[.int .u8 201, .int .u8 202] 5))).grown hg4 q4 (fun k hk => (q1.lt k hk).1)); clear ho4 hg4 q1 q2 q3 q4))
 clear O3
 obtain ⟨fb, cf, e4, hcf⟩ := own_some4 O4.out (by simp)
 subst e4
 have BA := Tr.own_byQ O4.out
 have BF := hidden BA.front
 have c201 := BA.at bs.length (by simp)
 have e201 : (bs ++ ([201, 202] : List UInt8)).getD bs.length 0 = 201 := by simp [List.getD]
 rw [e201, Nat.zero_add] at c201
 replace c201 : w4.cell? ⟨fb, bs.length, none⟩ = some (.int .u8 201) := c201
 obtain ⟨n2, hn2⟩ : ∃ n2, (bs ++ ([201, 202] : List UInt8)).length = n2 := ⟨_, rfl⟩
 have l1 : (bs.length : Int) < (n2 : Int) := by
  have : n2 = bs.length + 2 := by rw [← hn2]; simp
  omega
 have l2 : (bs.length : Int) ≤ (cf : Int) := by simp at hcf; omega
 have l0 : (0 : Int) ≤ (bs.length : Int) := by omega
 have l3 : bs.length ≤ cf := by omega
 rw [hn2]
 clear BA e201 hcf O4 hn2 z0 z1
 obtain ⟨g, E, N, g1, g2, hN, TP1, TP2⟩ := tapes_both K PDR.out.k1 bs HL.out
 have P4 := hidden (PDR.out.keep B4.out)
 have B24 := hidden (bl_trans B2.out B4.out)
 have T4 := hidden (HT2.out.keep B4.out)
 have BY4 := hidden (BS.out.keep B4.out)
 have C1 : Hid _ := hidden (TP1 w4)
 obtain ⟨b1, v1, s1, p1, lb1⟩ := P4.out.p
 replace C1 := hidden (C1.out b1 t m v1 s1 Q1 (some ⟨fb, 0, none⟩) cf p1 P4.out.q1 T4.out BF.out l3)
 have H2 := hidden TP2
 have HN := hidden hN
 clear TP1 TP2 hN p1 lb1 s1 v1 b1 B4 B3 B2 BS HT2 PDR
 have THNA : Hid (∀ y : World, (y.alloc (.cells tz34.toArray 35)).there y.heap.size 0 34) := hidden (fun y => there_newM y tz34 35)
 have ALCA : Hid (∀ {ops : Array Oper} {rest : List Oper} {o : Oper} {a : Act} {w : World} {Q : Exit → Act → World → Prop}, o.guard = none → o.op = .alloc 35 → wpList Tryz.prog ops Q rest (a.put o.dst (.pointer (some ⟨w.heap.size, 0, none⟩))) (w.alloc (.cells tz34.toArray 35)) → wpList Tryz.prog ops Q (o :: rest) a w) := hidden wpList_ptalloc
 have THND : Hid (∀ y : World, (y.alloc (.cells tz34.toArray 46)).there y.heap.size 0 34) := hidden (fun y => there_newM y tz34 46)
 have ALCD : Hid (∀ {ops : Array Oper} {rest : List Oper} {o : Oper} {a : Act} {w : World} {Q : Exit → Act → World → Prop}, o.guard = none → o.op = .alloc 46 → wpList Tryz.prog ops Q rest (a.put o.dst (.pointer (some ⟨w.heap.size, 0, none⟩))) (w.alloc (.cells tz34.toArray 46)) → wpList Tryz.prog ops Q (o :: rest) a w) := hidden wpList_rtalloc
 generalize hZ : tz34 = zp at THNA ALCA THND ALCD
 have HZ := hidden hZ
 clear hZ
 go_upto_region 9 with (first | (go_at_call 5; refine C1.out.mono ?_; rintro e w5 ⟨P1A, P2A, c1A, c2A, rfl, k1, k2, hb⟩; have K1A := hidden k1; have K2A := hidden k2; have BA := hidden hb; have ONA := hidden (t34_one g P1A P2A N c1A N c2A); have VVA := hidden (lay_tape w5 (t34 g (.slice P1A N c1A) (.slice P2A N c2A)) 35 rfl); clear hb k1 k2 C1; generalize hcsA : t34 g (.slice P1A N c1A) (.slice P2A N c2A) = csA at *; have HCSA := hidden hcsA; have LNA : Hid (csA.toArray.size = 34) := hidden (by rw [← hcsA]; rfl); clear hcsA) | refine ALCA.out rfl rfl ?_ | (refine wpList_storeL rfl 35 _ _ rfl rfl w5.heap.size 0 csA (by rfl) (by rfl) (by rw [LNA.out]; exact THNA.out w5) (by rw [LNA.out]; exact ptinfo) ONA.out ?_; rw [HZ.out] at VVA; have RA := hidden VVA.out.2; have BXA := hidden (bl_trans BA.out VVA.out.1); replace K1A := hidden (K1A.out.keep VVA.out.1); replace K2A := hidden (K2A.out.keep VVA.out.1); clear VVA; generalize World.setCells _ w5.heap.size 0 csA = w6 at *; generalize w5.heap.size = BP at *))
 have B46 := BXA
 have P6 := hidden (P4.out.keep B46.out)
 have BY6 := hidden (BY4.out.keep B46.out)
 have BF6 := hidden (BF.out.keep B46.out)
 have B26 := hidden (bl_trans B24.out B46.out)
 have d201 := cell_keep c201 B46.out
 obtain ⟨b2, v2, s2, p2, lb2⟩ := P6.out.d
 have C2 := hidden (H2.out w6 b2 r m v2 s2 Q2 P cap p2 BY6.out)
 clear c201 B46 B24 BF BY4 P4 T4 BA BXA H2 p2 lb2 s2 v2 b2 ONA LNA
 go_upto_region 10 with (first | (go_at_call 7; refine C2.out.mono ?_; rintro e w7 ⟨P1D, P2D, c1D, c2D, rfl, k1, k2, hb⟩; have K1D := hidden k1; have K2D := hidden k2; have BD := hidden hb; have OND := hidden (t34_one g P1D P2D N c1D N c2D); have VVD := hidden (lay_tape w7 (t34 g (.slice P1D N c1D) (.slice P2D N c2D)) 46 rfl); clear hb k1 k2 C2; generalize hcsD : t34 g (.slice P1D N c1D) (.slice P2D N c2D) = csD at *; have HCSD := hidden hcsD; have LND : Hid (csD.toArray.size = 34) := hidden (by rw [← hcsD]; rfl); clear hcsD) | refine ALCD.out rfl rfl ?_ | (refine wpList_storeL rfl 46 _ _ rfl rfl w7.heap.size 0 csD (by rfl) (by rfl) (by rw [LND.out]; exact THND.out w7) (by rw [LND.out]; exact rtinfo) OND.out ?_; rw [HZ.out] at VVD; have RD := hidden VVD.out.2; have BXD := hidden (bl_trans BD.out VVD.out.1); replace K1D := hidden (K1D.out.keep VVD.out.1); replace K2D := hidden (K2D.out.keep VVD.out.1); clear VVD; generalize World.setCells _ w7.heap.size 0 csD = w8 at *; generalize w7.heap.size = DP at *))
 have B68 := BXD
 have P8 := hidden (P6.out.keep B68.out)
 have BY8 := hidden (BY6.out.keep B68.out)
 have BF8 := hidden (BF6.out.keep B68.out)
 have B28 := hidden (bl_trans B26.out B68.out)
 have e201 := cell_keep d201 B68.out
 have RA8 := hidden (range_keepM RA.out B68.out)
 replace K1A := hidden (K1A.out.keep B68.out)
 replace K2A := hidden (K2A.out.keep B68.out)
 rw [← HCSA.out] at RA8
 rw [← HCSD.out] at RD
 obtain ⟨b1, v1, s1, p1, lb1⟩ := P8.out.p
 obtain ⟨b2, v2, s2, p2, lb2⟩ := P8.out.d
 have C5 := hidden (fun y (hy : Below w8.heap.size w8 y) => Size_sy (p1.keep hy) P8.out.q1 P8.out.k1)
 have C7 := hidden (fun y (hy : Below w8.heap.size w8 y) => (dSize_any (p2.keep hy) P8.out.k2).mono (fun e w' h => (show e = .returned (.int .i64 (sz K : Int)) ∧ Below y.heap.size y w' from ⟨h.1, by rw [h.2]; exact Below.refl _ _⟩)))
 clear d201 B68 B26 BF6 BY6 P6 BD BXD p1 p2 lb1 lb2 s1 s2 v1 v2 b1 b2 OND LND RA
 refine a10 _ t r fb n2 cf cap (sz K) P bs E _ _ _ _ _ _ _ _ _ _ _ _ _ _ _ _ _ _ _ _ _ _ _ _ _ _ _ _ _ _ _ _ _ _ _ _ _ _ _ _ _ _ _ _ _ _ _ _ _ _ _ _ _ _ _ _ _ _ _ _ _ _ _ _ _ _ _ _ _ _ _ _ _ _ _ _ _ _ _ _ _ _ _ _ _ _ _ _ _ _ _ _ _ _ _ _ _ _ _ _ _ _ _ _ _ _ _ _ _ _ _ _ _ _ _ _ _ _ _ _ _ _ _ _ _ _ _ _ _ _ _ _ _ _ _ _ _ _ _ _ _ _ _ _ _ _ _ _ _ _ _ _ _ _ _ _ w8 BF8.out BY8.out l0 l1 l2 e201 C5 C7 (hidden ?_)
 intro w9 hb9
 clear C5 C7 e201
 go_upto_region 12 with fail
 refine a12 _ BP DP g _ _ _ _ _ _ _ _ _ _ _ _ _ _ _ _ _ _ _ _ _ _ _ _ _ _ _ _ _ _ _ _ _ _ _ _ _ _ _ _ _ _ _ _ _ _ _ _ _ _ _ _ _ _ _ _ _ _ _ _ _ _ _ _ _ _ _ _ _ _ _ _ _ _ _ _ _ _ _ _ _ _ _ _ _ _ _ _ _ _ _ _ _ _ _ _ _ _ _ _ _ _ _ _ _ _ _ _ _ _ _ _ _ _ _ _ _ _ _ _ _ _ _ _ _ _ _ _ _ _ _ _ _ _ _ _ _ _ _ _ _ _ _ _ _ _ _ _ _ _ _ _ _ _ _ _ _ _ _ _ _ _ _ _ w9 (range_keepM RA8.out hb9) (range_keepM RD.out hb9) (hidden (fun y => vis_any (g 0) y)) (hidden (fun y => vis_any (g 1) y)) (hidden (fun y => vis_any (g 2) y)) (hidden (fun y => vis_any (g 3) y)) (hidden (fun y => vis_any (g 4) y)) (hidden (fun y => vis_any (g 5) y)) (hidden (fun y => vis_any (g 6) y)) (hidden (fun y => vis_any (g 7) y)) (hidden ?_)
 intro z88 z89 z90 z91 z92 z93 z94 z95 z96 z97 z98 z99 z100 z101 z102 z103 z104 z105 z106 z107 z108 z109 z110 z111 z112 z113 z114 z115 z116 z117 z118 z119 z120 z121 z122 z123 z124 z125 z126 z127 z128 z129 z130 z131 z132 z133 z134 z135 z136 z137 z138 z139 z140 z141 z142 z143 z144 z145 z146 z147 z148 w10 hb10
 have B9 := bl_trans hb9 hb10
 have RA0 := range_keepM RA8.out B9
 have RD0 := range_keepM RD.out B9
 have a32 := RA0 32 _ rfl
 have a33 := RA0 33 _ rfl
 have d32 := RD0 32 _ rfl
 have d33 := RD0 33 _ rfl
 simp only [Nat.zero_add] at a32 a33 d32 d33
 have CS1 := hidden (sameNums_sk HN.out (K1A.out.keep B9) (K1D.out.keep B9))
 have CS2 := hidden (fun y (hy : Below w10.heap.size w10 y) => sameNums_sk HN.out ((K2A.out.keep B9).keep hy) ((K2D.out.keep B9).keep hy))
 have BW := hidden (bl_trans B28.out B9)
 clear B9 RA0 RD0 hb9 hb10 RA8 RD K1A K2A K1D K2D
 go_upto_region 14 with fail
 go_wp2_with (first | (have _t := CS1; go_at_call 10; refine CS1.out.mono ?_; rintro e w11 ⟨rfl, hb⟩; have a33' := cell_keep a33 hb; have d33' := cell_keep d33 hb; have CS3 := hidden (CS2.out w11 hb); have BY := hidden (bl_trans BW.out hb); clear hb CS1 CS2 a32 d32 a33 d33) | (go_at_call 10; refine CS3.out.mono ?_; rintro e w12 ⟨rfl, hb⟩; have BZ := hidden (bl_trans BY.out hb); clear hb CS3))
 refine bodyPost_ret (v := .bool true) (by simp [results, Tryz.results3, go_sem]) rfl ⟨rfl, BZ.out⟩
end Ci
end Go.Proofs.YtkoilaoogphgfaaGreatDoor
