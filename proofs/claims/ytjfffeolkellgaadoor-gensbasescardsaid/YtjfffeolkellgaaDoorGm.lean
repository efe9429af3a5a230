import Derived.Test.YtjfffeolkellgaaDoorGl
namespace Go.Proofs.YtjfffeolkellgaaDoor
open Go.RowKit
theorem hd3_one {L0 L1 L2 Gv Hv : Value} (h0 : L0.oneCell' = true) (h1 : L1.oneCell' = true) (h2 : L2.oneCell' = true) (hg : Gv.oneCell' = true) (hh : Hv.oneCell' = true) : (hd3 L0 L1 L2 ++ [Gv, Hv]).toArray.all (·.oneCell') = true := by
  simp [hd3, fe, h0, h1, h2, hg, hh]
  simp [Value.oneCell']
theorem own_one {w : World} {B s n : Nat} {e : TypeId} {v : Value} {xs : List Value} (h : w.ownsRow B e s v n xs) : v.oneCell' = true := by
  rcases h.2 with ⟨rfl, _⟩ | ⟨g, cap, cur, rfl, _⟩ <;> rfl
theorem hd3_size (L0 L1 L2 Gv Hv : Value) : (hd3 L0 L1 L2 ++ [Gv, Hv]).toArray.size = 81 := rfl
theorem range_ps {w : World} {b : Nat} {cs : List Value} {t : TypeId} {fr : Nat × Nat} (h : w.heap[b]? = some (.cells cs.toArray t fr)) : w.rangeAt b 0 cs := fun j v hv => by
  rw [cell_of_row w b (0 + j) cs.toArray t fr h, Nat.zero_add]
  simpa using hv
/-- the set as it is told: what its cells lead to -/
structure Sq (B n : Nat) (w : World) (L0 L1 L2 Gv Hv : Value) : Prop where
  g : OL B 3 w Gv n
  h : OL B (3 + n) w Hv n
  l0 : w.ownsRow B 39 4 L0 1 (svs 1 (uf 0))
  l1 : w.ownsRow B 39 4 L1 2 (svs 2 (uf 1))
  l2 : w.ownsRow B 39 4 L2 3 (svs 3 (uf 2))
theorem OL.setCells {B o : Nat} {w : World} {v : Value} {k b : Nat} (h : OL B o w v k) (hb : b < B) (ds : List Value) : OL B o (w.setCells b 0 ds) v k := by
  obtain ⟨f, h1, h2⟩ := h
  exact ⟨f, own_setCells h1 hb ds, fun j hj => own_setCells (h2 j hj) hb ds⟩
theorem OL.less {B C o : Nat} {w : World} {v : Value} {k : Nat} (h : OL B o w v k) (hc : C ≤ B) : OL C o w v k := by
  obtain ⟨f, h1, h2⟩ := h
  exact ⟨f, own_less h1 hc, fun j hj => own_less (h2 j hj) hc⟩
set_option maxRecDepth 100000 in
set_option maxHeartbeats 8000000 in
theorem rbasis_any (n : Nat) (hn : n ≤ 64) (w : World) :
    Calls Tryd.prog 6 #[.int .i64 (n : Int)] w fun e w' => ∃ L0 L1 L2 Gv Hv : Value, e = .returned (.tuple #[.agg (hd3 L0 L1 L2 ++ [Gv, Hv]).toArray, .int .i64 0]) ∧ Sq w.heap.size n w' L0 L1 L2 Gv Hv ∧ Below w.heap.size w w' := by
  have nn0 : ¬ (n : Int) < 0 := by omega
  have nn1 : ¬ (n : Int) > 64 := by omega
  have nn2 : ¬ (64 : Int) < (n : Int) := by omega
  have HN := hidden hn
  have C0 := hidden (fun w => runit_any 0 w (by omega))
  have C1 := hidden (fun w => runit_any 1 w (by omega))
  have C2 := hidden (fun w => runit_any 2 w (by omega))
  have MZ := hidden (Bx1.new w zs 45)
  have LT := hidden (show w.heap.size < (w.alloc (.cells zs.toArray 45)).heap.size by simp)
  have B0 := hidden (bl_alloc w (.cells zs.toArray 45))
  have I8 := hidden sinfo81
  generalize hW : w.alloc (.cells zs.toArray 45) = W at MZ LT B0
  have hzv := zv81
  go_enter Tryd.func6, Tryd.ntmps6
  go_wp2_with (first
    | (go_at_call 21; refine (C0.out _).mono ?_; rintro e w1 ⟨L0, rfl, hL0, hb1⟩; obtain ⟨g0, c0, rfl, _, _, _⟩ := own_shapeG hL0 (by omega); have HL0 := hidden hL0; have HB1 := hidden hb1; clear hL0 hb1 C0 hW)
    | (go_at_call 21; refine (C1.out _).mono ?_; rintro e w2 ⟨L1, rfl, hL1, hb2⟩; obtain ⟨g1, c1, rfl, _, _, _⟩ := own_shapeG hL1 (by omega); have HL1 := hidden hL1; have HB2 := hidden hb2; clear hL1 hb2 C1)
    | (go_at_call 21; refine (C2.out _).mono ?_; rintro e w3 ⟨L2, rfl, hL2, hb3⟩; obtain ⟨g2, c2, rfl, _, _, _⟩ := own_shapeG hL2 (by omega); have HL2 := hidden hL2; have HB3 := hidden hb3; have TH3 := hidden (show (w3.alloc (.cells zs.toArray 45)).there w3.heap.size 0 (hd3 (Value.slice (some ⟨g0, 0, none⟩) 1 c0) (Value.slice (some ⟨g1, 0, none⟩) 2 c1) (Value.slice (some ⟨g2, 0, none⟩) 3 c2) ++ [Value.slice none 0 0, Value.slice none 0 0]).toArray.size from (Bx1.new w3 zs 45).t); have O3 := hidden (hd3_one (L0 := Value.slice (some ⟨g0, 0, none⟩) 1 c0) (L1 := Value.slice (some ⟨g1, 0, none⟩) 2 c1) (L2 := Value.slice (some ⟨g2, 0, none⟩) 3 c2) (Gv := Value.slice none 0 0) (Hv := Value.slice none 0 0) rfl rfl rfl rfl rfl); clear hL2 hb3 C2)
    | refine wpList_buildC rfl 45 _ rfl (hd3 (Value.slice (some ⟨g0, 0, none⟩) 1 c0) (Value.slice (some ⟨g1, 0, none⟩) 2 c1) (Value.slice (some ⟨g2, 0, none⟩) 3 c2) ++ [Value.slice none 0 0, Value.slice none 0 0]).toArray (by kernel_rfl) ?_
    | refine wpList_store_mid rfl 45 _ _ rfl w3.heap.size 0 (hd3 (Value.slice (some ⟨g0, 0, none⟩) 1 c0) (Value.slice (some ⟨g1, 0, none⟩) 2 c1) (Value.slice (some ⟨g2, 0, none⟩) 3 c2) ++ [Value.slice none 0 0, Value.slice none 0 0]).toArray (by rfl) (by rfl) TH3.out I8.out O3.out ?_)
  have PS := heap_setCells_whole (hd3 (Value.slice (some ⟨g0, 0, none⟩) 1 c0) (Value.slice (some ⟨g1, 0, none⟩) 2 c1) (Value.slice (some ⟨g2, 0, none⟩) 3 c2) ++ [Value.slice none 0 0, Value.slice none 0 0]) 0 (w3.alloc (.cells zs.toArray 45)) zs.toArray (heap_alloc_new w3 _) rfl
  rw [List.take_zero, List.nil_append] at PS
  have g12 : ∀ {x : World}, Below w3.heap.size w3 x → Below W.heap.size W x := fun h => bl_trans (bl_trans (bl_trans HB1.out HB2.out) HB3.out) h
  have kp : ∀ {x y : World} {B : Nat} {v : Value} {m : Nat} {xs : List Value}, x.ownsRow B 39 4 v m xs → Below x.heap.size x y → y.ownsRow B 39 4 v m xs := fun h hb => own_keepZ h hb
  have BS := below_setCellsM (w0 := w3) w3.heap.size (hd3 (Value.slice (some ⟨g0, 0, none⟩) 1 c0) (Value.slice (some ⟨g1, 0, none⟩) 2 c1) (Value.slice (some ⟨g2, 0, none⟩) 3 c2) ++ [Value.slice none 0 0, Value.slice none 0 0]) 0 (bl_alloc w3 (.cells zs.toArray 45)) (Nat.le_refl _)
  have SR : Hid (Sr W.heap.size n ((w3.alloc (.cells zs.toArray 45)).setCells w3.heap.size 0 (hd3 (Value.slice (some ⟨g0, 0, none⟩) 1 c0) (Value.slice (some ⟨g1, 0, none⟩) 2 c1) (Value.slice (some ⟨g2, 0, none⟩) 3 c2) ++ [Value.slice none 0 0, Value.slice none 0 0])) w3.heap.size (Value.slice (some ⟨g0, 0, none⟩) 1 c0) (Value.slice (some ⟨g1, 0, none⟩) 2 c1) (Value.slice (some ⟨g2, 0, none⟩) 3 c2) 0 0 (.slice none 0 0) (.slice none 0 0)) := hidden ⟨(g12 (Below.refl _ _)).size, PS, ⟨fun _ => .slice none 0 0, World.ownsRow_nil _ _ _ _, fun j hj => absurd hj (by omega)⟩, ⟨fun _ => .slice none 0 0, World.ownsRow_nil _ _ _ _, fun j hj => absurd hj (by omega)⟩, .inl rfl, kp (kp (kp HL0.out HB2.out) HB3.out) BS, own_less (kp (kp HL1.out HB3.out) BS) HB1.out.size, own_less (kp HL2.out BS) (bl_trans HB1.out HB2.out).size⟩
  have BB := hidden (g12 BS)
  clear PS g12 kp BS HL0 HL1 HL2 HB1 HB2 HB3 TH3 O3
  generalize (w3.alloc (.cells zs.toArray 45)).setCells w3.heap.size 0 (hd3 (Value.slice (some ⟨g0, 0, none⟩) 1 c0) (Value.slice (some ⟨g1, 0, none⟩) 2 c1) (Value.slice (some ⟨g2, 0, none⟩) 3 c2) ++ [Value.slice none 0 0, Value.slice none 0 0]) = wy at SR BB ⊢
  generalize w3.heap.size = s at SR BB ⊢
  go_wp2_with fail
  go_loopw [5] (fun kv w' => ∃ (k : Nat) (Gv Hv : Value), k ≤ n ∧ kv = .int .i64 (k : Int) ∧ Hid (Sr W.heap.size n w' s (Value.slice (some ⟨g0, 0, none⟩) 1 c0) (Value.slice (some ⟨g1, 0, none⟩) 2 c1) (Value.slice (some ⟨g2, 0, none⟩) 3 c2) k k Gv Hv) ∧ Hid (Below W.heap.size W w')) (fun k _ => n - (intOf k).toNat)
  case atStart => exact ⟨0, _, _, by omega, rfl, SR, BB⟩
  case round =>
    clear SR BB
    obtain ⟨k, Gv, Hv, hk, rfl, hR, hB⟩ := hrel
    by_cases hkn : k < n
    · have k0 : (0 : Int) ≤ (k : Int) := by omega
      have k1 : (k : Int) < (n : Int) := by omega
      have w9 : IntKind.i64.wrap ((k : Int) + 1) = (k : Int) + 1 := IntWalk.i64_in _ (by have := HN.out; omega)
      go_upto_region 7 with fail
      refine rb7_any _ n k s _ _ _ _ _ _ _ _ _ _ _ _ _ _ _ _ _ _ _ _ _ _ _ _ _ _ _ _ _ _ _ _ _ _ _ _ _ _ (Value.slice (some ⟨g0, 0, none⟩) 1 c0) (Value.slice (some ⟨g1, 0, none⟩) 2 c1) (Value.slice (some ⟨g2, 0, none⟩) 3 c2) Gv Hv W (hidden ?_) hkn HN.out wr hB.out hR.out
      intro y1 cy1 eb1 Gw wz R2 B2
      replace R2 := hidden R2
      replace B2 := hidden B2
      clear hR hB
      go_upto_region 8 with fail
      refine rb8_any _ n k s _ _ _ _ _ _ _ _ _ _ _ _ _ _ _ _ _ _ _ _ _ _ _ _ _ _ _ _ _ _ _ _ _ _ _ _ _ _ (Value.slice (some ⟨g0, 0, none⟩) 1 c0) (Value.slice (some ⟨g1, 0, none⟩) 2 c1) (Value.slice (some ⟨g2, 0, none⟩) 3 c2) Gw Hv W (hidden ?_) hkn HN.out wz B2.out R2.out
      intro y2 cy2 eb2 Hw wv R3 B3
      replace R3 := hidden R3
      replace B3 := hidden B3
      clear R2 B2
      go_wp2_with fail
      go_roundw
      case rel => exact ⟨k + 1, Gw, Hw, by omega, by go_num, R3, B3⟩
      case measure => simp [intOf]; omega
    · obtain rfl : k = n := by omega
      have lq : ¬ (k : Int) < (k : Int) := by omega
      have hr := hR.out
      obtain ⟨xg, og⟩ := hr.g.own
      obtain ⟨xh, oh⟩ := hr.h.own
      have O4 := hidden (hd3_one (own_one hr.l0) (own_one hr.l1) (own_one hr.l2) (own_one og) (own_one oh))
      have RG2 := hidden (range_ps hr.ps)
      have MZ2 := MZ.out.keep hB.out LT.out
      have TH := hidden (show wr.there w.heap.size 0 (hd3 (Value.slice (some ⟨g0, 0, none⟩) 1 c0) (Value.slice (some ⟨g1, 0, none⟩) 2 c1) (Value.slice (some ⟨g2, 0, none⟩) 3 c2) ++ [Gv, Hv]).toArray.size from MZ2.t)
      have MS := MZ2.set (ds := hd3 (Value.slice (some ⟨g0, 0, none⟩) 1 c0) (Value.slice (some ⟨g1, 0, none⟩) 2 c1) (Value.slice (some ⟨g2, 0, none⟩) 3 c2) ++ [Gv, Hv]) rfl
      have LD := hidden (run_loadVar_mid (P := Tryd.prog) _ w.heap.size 0 45 (hd3 (Value.slice (some ⟨g0, 0, none⟩) 1 c0) (Value.slice (some ⟨g1, 0, none⟩) 2 c1) (Value.slice (some ⟨g2, 0, none⟩) 3 c2) ++ [Gv, Hv]) _ MS.r Tryd.underlying45 rfl sinfo81)
      have BL := hidden (below_setCellsM (w0 := w) w.heap.size (hd3 (Value.slice (some ⟨g0, 0, none⟩) 1 c0) (Value.slice (some ⟨g1, 0, none⟩) 2 c1) (Value.slice (some ⟨g2, 0, none⟩) 3 c2) ++ [Gv, Hv]) 0 (bl_trans B0.out hB.out) (Nat.le_refl _))
      have QQ : Hid (Sq w.heap.size k (wr.setCells w.heap.size 0 (hd3 (Value.slice (some ⟨g0, 0, none⟩) 1 c0) (Value.slice (some ⟨g1, 0, none⟩) 2 c1) (Value.slice (some ⟨g2, 0, none⟩) 3 c2) ++ [Gv, Hv])) (Value.slice (some ⟨g0, 0, none⟩) 1 c0) (Value.slice (some ⟨g1, 0, none⟩) 2 c1) (Value.slice (some ⟨g2, 0, none⟩) 3 c2) Gv Hv) := hidden ⟨(hr.g.setCells LT.out _).less (Nat.le_of_lt LT.out), (hr.h.setCells LT.out _).less (Nat.le_of_lt LT.out), own_less (own_setCells hr.l0 LT.out _) (Nat.le_of_lt LT.out), own_less (own_setCells hr.l1 LT.out _) (Nat.le_of_lt LT.out), own_less (own_setCells hr.l2 LT.out _) (Nat.le_of_lt LT.out)⟩
      have US : Hid (Tryd.prog.underlying 45 = _) := hidden Tryd.underlying45
      clear hr og oh MS MZ2
      go_wp2_with (first | refine wpList_load_mid rfl 45 _ rfl s 0 (by rfl) (hd3 (Value.slice (some ⟨g0, 0, none⟩) 1 c0) (Value.slice (some ⟨g1, 0, none⟩) 2 c1) (Value.slice (some ⟨g2, 0, none⟩) 3 c2) ++ [Gv, Hv]) _ RG2.out US.out rfl I8.out ?_ | refine wpList_store_mid rfl 45 _ _ rfl w.heap.size 0 (hd3 (Value.slice (some ⟨g0, 0, none⟩) 1 c0) (Value.slice (some ⟨g1, 0, none⟩) 2 c1) (Value.slice (some ⟨g2, 0, none⟩) 3 c2) ++ [Gv, Hv]).toArray (by rfl) (by rfl) TH.out I8.out O4.out ?_)
      refine bodyPost_ret (v := .tuple #[.agg (hd3 (Value.slice (some ⟨g0, 0, none⟩) 1 c0) (Value.slice (some ⟨g1, 0, none⟩) 2 c1) (Value.slice (some ⟨g2, 0, none⟩) 3 c2) ++ [Gv, Hv]).toArray, .int .i64 0]) (results_tupM Tryd.results6 _ _ _ _ _ _ (by rfl) (by rfl) LD.out) rfl ⟨_, _, _, _, _, rfl, QQ.out, BL.out⟩
end Go.Proofs.YtjfffeolkellgaaDoor
