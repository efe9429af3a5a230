import Derived.Test.YtkoilaoogphgfaaGreatDoorTk
import Derived.Test.YtkoilaoogphgfaaGreatDoorSde
import Derived.Test.YtkoilaoogphgfaaGreatDoorSop
namespace Go.Proofs.YtkoilaoogphgfaaGreatDoor
open Go.RowKit
structure WW (w0 : World) (L : List (Nat × E4)) (R : List Nat) (los his : List Value) (w : World) : Prop where
 st : St w0 L R w
 r1 : w.rangeAt w0.heap.size 0 los
 r2 : w.rangeAt w0.heap.size 32 his
theorem WW.keep {w0 : World} {L : List (Nat × E4)} {R : List Nat} {los his : List Value} {w1 w2 : World} (h : WW w0 L R los his w1) (hb : Below w1.heap.size w1 w2) : WW w0 L R los his w2 := ⟨h.st.keep hb, range_keep h.r1 hb, range_keep h.r2 hb⟩
theorem WW.drew {w0 : World} {L : List (Nat × E4)} {R : List Nat} {los his : List Value} {w1 : World} (h : WW w0 L R los his w1) : WW w0 L R los his w1.drew := h.keep ((Below.refl _ _).drew)
theorem WW.room {w0 : World} {L : List (Nat × E4)} {R : List Nat} {los his : List Value} {w1 : World} (h : WW w0 L R los his w1) (t : TypeId) : WW w0 ((w1.heap.size, zero4) :: L) (w1.heap.size :: R) los his (w1.alloc (.cells #[.int .u64 0, .int .u64 0, .int .u64 0, .int .u64 0] t)) := ⟨h.st.room t, range_keep h.r1 (bl_alloc _ _), range_keep h.r2 (bl_alloc _ _)⟩
theorem WW.set {w0 : World} {L M : List (Nat × E4)} {R : List Nat} {los his : List Value} {w1 : World} {b : Nat} {old : E4} (h : WW w0 L R los his w1) (s : E4) (hb : (b, old) ∈ L) (h0 : w0.heap.size < b) (hs : ∀ p ∈ M, p ∈ L ∧ b ≠ p.1) : WW w0 ((b, s) :: M) R los his (set4 w1 b s) :=
 ⟨h.st.set s hb (by omega) hs, fun j v hv => (set4_cell_far w1 b s _ (by show b ≠ w0.heap.size; omega)).trans (h.r1 j v hv), fun j v hv => (set4_cell_far w1 b s _ (by show b ≠ w0.heap.size; omega)).trans (h.r2 j v hv)⟩
theorem WW.sub {w0 : World} {L M : List (Nat × E4)} {R Q : List Nat} {los his : List Value} {w1 : World} (h : WW w0 L R los his w1) (hs : ∀ p ∈ M, p ∈ L) (hr : ∀ b ∈ Q, b ∈ R) : WW w0 M Q los his w1 := ⟨⟨fun p hp => h.st.live p (hs p hp), fun b hb => h.st.wrt b (hr b hb), h.st.bel⟩, h.r1, h.r2⟩
theorem range_split {w : World} {b : Nat} {cs ds : List Value} (h : w.rangeAt b 0 (cs ++ ds)) (hl : cs.length = 32) : w.rangeAt b 0 cs ∧ w.rangeAt b 32 ds := by
 refine ⟨fun j v hv => h j v ?_, fun j v hv => ?_⟩
 ·rw [List.getElem?_append_left (List.getElem?_eq_some_iff.1 hv).1]; exact hv
 ·have := h (32 + j) v (by rw [List.getElem?_append_right (by omega), hl, Nat.add_sub_cancel_left]; exact hv)
  rwa [Nat.zero_add] at this
theorem run_arrayAt {P : Program} {w : World} {t e : TypeId} {n len cap : Nat} {a : Addr} (h : P.underlying t = some (.array n e)) (hl : n ≤ len) :
  (Instr.arrayAt t (.slice (some a) len cap)).run P w = .ok (.pointer (some a)) w := by
 have hl2 : ¬ len < n := by omega
 simp [Instr.arrayAt, run_underlying h, hl2, go_sem]
set_option maxRecDepth 100000 in
set_option maxHeartbeats 16000000 in
theorem Wide_any (zs ys : List Int) (w : World) (hT : Tb w) (lz : zs.length = 32) (hz : ∀ z ∈ zs, 0 ≤ z ∧ z ≤ 255) (ly : ys.length = 32) (hy : ∀ z ∈ ys, 0 ≤ z ∧ z ≤ 255) :
  Calls Tryz.prog 33 #[bv (zs ++ ys)] w fun e w' => ∃ r : E4, e = .returned r.v ∧ r.is (num zs + num ys * R) ∧ Below w.heap.size w w' := by
 have rl := hidden (fun w => read_any zs w lz hz)
 have rh := hidden (fun w => read_any ys w ly hy)
 have en := fun w T => enter_any (limE (num ys)) w T (limE_ok _)
 rw [limE_n _ (by omega) (num_lt256 ly hy)] at en
 have ad := fun (u : E4) (hu : u.ok) w T => Add_any (limE (num zs)) u w T (limE_ok _) hu
 rw [limE_n _ (by omega) (num_lt256 lz hz)] at ad
 have EN := hidden en
 have AD := hidden ad
 have hi1 : (Tryz.prog.info? 128).map (·.size) = some (zs.map fun z => Value.int .u8 z).length := by rw [List.length_map, lz]; kernel_rfl
 have hi2 : (Tryz.prog.info? 128).map (·.size) = some (ys.map fun z => Value.int .u8 z).length := by rw [List.length_map, ly]; kernel_rfl
 have hu : Tryz.prog.underlying 128 = some (.array 32 5) := by kernel_rfl
 have HU := hidden hu
 have ra1 := fun (w0 : World) (b : Nat) => run_arrayAt (w := w0) (len := 32) (cap := 64) (a := ⟨b, 0, none⟩) hu (by omega)
 have ra2 := fun (w0 : World) (b : Nat) => run_arrayAt (w := w0) (len := 32) (cap := 32) (a := ⟨b, 32, none⟩) hu (by omega)
 have HI1 := hidden hi1
 have HI2 := hidden hi2
 have HT := hidden hT
 have rn := range_new w (zs ++ ys) 106
 rw [List.map_append] at rn
 obtain ⟨g1, g2⟩ := range_split rn (by simp [lz])
 have s0 : WW w [(w.heap.size + 1, zero4)] [w.heap.size + 1] (zs.map fun z => Value.int .u8 z) (ys.map fun z => Value.int .u8 z) ((w.alloc (.cells ((zs.map fun z => Value.int .u8 z) ++ (ys.map fun z => Value.int .u8 z)).toArray 106)).alloc (.cells #[.int .u64 0, .int .u64 0, .int .u64 0, .int .u64 0] 32)) := by
  have k := ((St.nil w).keep (bl_alloc w (.cells ((zs.map fun z => Value.int .u8 z) ++ (ys.map fun z => Value.int .u8 z)).toArray 106))).room 32
  simp only [World.size_alloc] at k
  exact ⟨k, range_keep g1 (bl_alloc _ _), range_keep g2 (bl_alloc _ _)⟩
 have S0 := hidden s0
 clear s0 rn g1 g2 hu hi1 hi2 hT en ad lz hz ly hy
 simp only [E4.v, bv, List.map_append] at rl rh EN AD ⊢
 generalize (num zs : Int) = N at *
 generalize (num ys : Int) = M at *
 generalize limE N = lo at *
 generalize limE M = hi at *
 generalize (zs.map fun z => Value.int .u8 z) = los at *
 generalize (ys.map fun z => Value.int .u8 z) = his at *
 go_enter Tryz.func33, Tryz.ntmps33
 go_upto_region 1 with fail
 go_cut [3, 4] (fun vx vy wx => ∃ X Y : Nat, vx = .pointer (some ⟨X, 0, none⟩) ∧ vy = .pointer (some ⟨Y, 0, none⟩) ∧ X ≠ Y ∧ w.heap.size + 1 < X ∧ w.heap.size + 1 < Y ∧ WW w [(Y, hi), (X, lo), (w.heap.size + 1, zero4)] [w.heap.size + 1] los his wx)
 case first =>
  refine wp_region_noPanic ?_
  have hW := S0.out.drew
  generalize hwd : ((w.alloc (.cells (los ++ his).toArray 106)).alloc (.cells #[.int .u64 0, .int .u64 0, .int .u64 0, .int .u64 0] 32)).drew = wd at hW
  have OWH := hidden hW
  refine wp_region_held_drew (S := fun w' => w'.rangeAt w.heap.size 0 los ∧ w'.rangeAt w.heap.size 32 his) (by kernel_rfl) (by rw [hwd]; exact ⟨OWH.out.r1, OWH.out.r2⟩) (fun hHeld => ?_)
  rw [hwd] at hHeld
  rw [hwd]
  have h1 : w.heap.size + 1 < wd.heap.size := (OWH.out.st.live (w.heap.size + 1, zero4) (by simp)).lt
  clear hW hwd
  refine wpAnyH_take (i := 0) (oi := { dst := some 5, op := Op.slice 106 (Operand.tmp 1) none (some (Operand.const (Value.int IntKind.i64 32))) none, type := 25, pos := "bytes.go:33", after := #[], guard := none }) (v := ?_) rfl (by kernel_rfl) (by kernel_rfl) (by kernel_rfl) (fun _ _ _ h => h) (Or.inl ⟨by rfl, ?_⟩) hHeld ?_
  rotate_left 1
  ·(intro w0 hSw; clear hSw; go_simp; try with_reducible rfl)
  simp only [Act.put, sA, sB, sC]
  refine wpAnyH_take (i := 1) (oi := { dst := some 6, op := Op.sliceToArrayPointer 128 (Operand.tmp 5), type := 0, pos := "bytes.go:33", after := #[{ on := 0, ground := Ground.data }], guard := none }) (v := ?_) rfl (by kernel_rfl) (by kernel_rfl) (by kernel_rfl) (fun _ _ _ h => h) (Or.inl ⟨by rfl, ?_⟩) hHeld ?_
  rotate_left 1
  ·(intro w0 hSw; clear hSw; go_simp; try with_reducible rfl)
  simp only [Act.put, sA, sB, sC]
  refine wpAnyH_take (i := 2) (oi := { dst := some 7, op := Op.load 128 (Operand.tmp 6), type := 128, pos := "bytes.go:33", after := #[{ on := 1, ground := Ground.data }], guard := none }) rfl (by kernel_rfl) (by kernel_rfl) (by kernel_rfl) (fun _ _ _ h => h) (yieldsIf_load_mid (by rfl) _ _ rfl _ _ rfl _ _ (fun w0 hw => hw.1) HU.out rfl HI1.out) hHeld ?_
  simp only [Act.put, sA, sB, sC]
  refine wpAnyH_take (i := 4) (oi := { dst := some 9, op := Op.slice 106 (Operand.tmp 1) (some (Operand.const (Value.int IntKind.i64 32))) none none, type := 25, pos := "bytes.go:33", after := #[], guard := none }) (v := ?_) rfl (by kernel_rfl) (by kernel_rfl) (by kernel_rfl) (fun _ _ _ h => h) (Or.inl ⟨by rfl, ?_⟩) hHeld ?_
  rotate_left 1
  ·(intro w0 hSw; clear hSw; go_simp; try with_reducible rfl)
  simp only [Act.put, sA, sB, sC]
  refine wpAnyH_take (i := 5) (oi := { dst := some 10, op := Op.sliceToArrayPointer 128 (Operand.tmp 9), type := 0, pos := "bytes.go:33", after := #[{ on := 4, ground := Ground.data }], guard := none }) (v := ?_) rfl (by kernel_rfl) (by kernel_rfl) (by kernel_rfl) (fun _ _ _ h => h) (Or.inl ⟨by rfl, ?_⟩) hHeld ?_
  rotate_left 1
  ·(intro w0 hSw; clear hSw; go_simp; try with_reducible rfl)
  simp only [Act.put, sA, sB, sC]
  refine wpAnyH_take (i := 6) (oi := { dst := some 11, op := Op.load 128 (Operand.tmp 10), type := 128, pos := "bytes.go:33", after := #[{ on := 5, ground := Ground.data }], guard := none }) rfl (by kernel_rfl) (by kernel_rfl) (by kernel_rfl) (fun _ _ _ h => h) (yieldsIf_load_mid (by rfl) _ _ rfl _ _ rfl _ _ (fun w0 hw => hw.2) HU.out rfl HI2.out) hHeld ?_
  simp only [Act.put, sA, sB, sC]
  refine wpAnyH_ready (rs := [3, 8, 9]) (by kernel_rfl) (by simp) ?_
  refine AllReadyH.cons (o := { dst := some 8, op := Op.call { callee := Callee.value (Operand.func 49), args := #[Operand.tmp 7], argTypes := #[128] }, type := 32, pos := "bytes.go:33", after := #[{ on := 2, ground := Ground.data }], guard := none }) rfl (fun K hK => ?_) ?_
  ·go_simp
   refine (rl.out _).mono ?_
   rintro e w1 ⟨rfl, hb1⟩
   have O1 := hidden (OWH.out.keep hb1)
   have l1_0 : w.heap.size + 1 < w1.heap.size := (O1.out.st.live (w.heap.size + 1, zero4) (by simp)).lt
   go_wp2_with fail
   refine hK.out _ _ ⟨O1.out.r1, O1.out.r2⟩ (fun hHeld2 => ?_)
   clear hK K hHeld
   have hHeld := hHeld2
   clear hHeld2
   refine wpAnyH_ready (rs := [7, 8, 9]) (by kernel_rfl) (by simp) ?_
   refine AllReadyH.cons (o := { dst := some 12, op := Op.call { callee := Callee.value (Operand.func 49), args := #[Operand.tmp 11], argTypes := #[128] }, type := 32, pos := "bytes.go:33", after := #[{ on := 6, ground := Ground.data }, { on := 3, ground := Ground.chain }], guard := none }) rfl (fun K hK => ?_) ?_
   ·go_simp
    refine (rh.out _).mono ?_
    rintro e w2 ⟨rfl, hb2⟩
    have O2 := hidden (O1.out.keep hb2)
    have l2_0 : w.heap.size + 1 < w2.heap.size := (O2.out.st.live (w.heap.size + 1, zero4) (by simp)).lt
    go_wp2_with fail
    refine hK.out _ _ ⟨O2.out.r1, O2.out.r2⟩ (fun hHeld2 => ?_)
    clear hK K hHeld
    have hHeld := hHeld2
    clear hHeld2
    refine wpAnyH_ready (rs := [8, 9]) (by kernel_rfl) (by simp) ?_
    refine AllReadyH.cons (o := { dst := some 3, op := Op.alloc 32, type := 0, pos := "bytes.go:33", after := #[], guard := none }) rfl (fun K hK => ?_) ?_
    ·have O3 : Hid (WW w [(w2.heap.size, zero4), (w.heap.size + 1, zero4)] [w2.heap.size, w.heap.size + 1] los his _) := hidden (by have k := O2.out.room 32; simpa only [World.size_alloc] using k)
     go_simp
     refine hK.out _ _ ⟨O3.out.r1, O3.out.r2⟩ (fun hHeld2 => ?_)
     clear hK K hHeld
     have hHeld := hHeld2
     clear hHeld2
     generalize w2.alloc (.cells #[.int .u64 0, .int .u64 0, .int .u64 0, .int .u64 0] 32) = v3 at *
     have l3_0 : w2.heap.size < v3.heap.size := (O3.out.st.live (w2.heap.size, zero4) (by simp)).lt
     have l3_1 : w.heap.size + 1 < v3.heap.size := (O3.out.st.live (w.heap.size + 1, zero4) (by simp)).lt
     refine wpAnyH_ready (rs := [9]) (by kernel_rfl) (by simp) ?_
     refine AllReadyH.cons (o := { dst := some 4, op := Op.alloc 32, type := 0, pos := "bytes.go:33", after := #[], guard := none }) rfl (fun K hK => ?_) AllReadyH.nil
     ·have O4 : Hid (WW w [(v3.heap.size, zero4), (w2.heap.size, zero4), (w.heap.size + 1, zero4)] [v3.heap.size, w2.heap.size, w.heap.size + 1] los his _) := hidden (by have k := O3.out.room 32; simpa only [World.size_alloc] using k)
      go_simp
      refine hK.out _ _ ⟨O4.out.r1, O4.out.r2⟩ (fun hHeld2 => ?_)
      clear hK K hHeld
      have hHeld := hHeld2
      clear hHeld2
      generalize v3.alloc (.cells #[.int .u64 0, .int .u64 0, .int .u64 0, .int .u64 0] 32) = v4 at *
      have l4_0 : v3.heap.size < v4.heap.size := (O4.out.st.live (v3.heap.size, zero4) (by simp)).lt
      have l4_1 : w2.heap.size < v4.heap.size := (O4.out.st.live (w2.heap.size, zero4) (by simp)).lt
      have l4_2 : w.heap.size + 1 < v4.heap.size := (O4.out.st.live (w.heap.size + 1, zero4) (by simp)).lt
      have xq0 := (O4.out.st.live (w2.heap.size, zero4) (by simp)).c0
      have xq1 := (O4.out.st.live (w2.heap.size, zero4) (by simp)).c1
      have xq2 := (O4.out.st.live (w2.heap.size, zero4) (by simp)).c2
      have xq3 := (O4.out.st.live (w2.heap.size, zero4) (by simp)).c3
      have xf0 := (O4.out.st.wrt (w2.heap.size) (by simp)).1.f0
      have xf1 := (O4.out.st.wrt (w2.heap.size) (by simp)).1.f1
      have xf2 := (O4.out.st.wrt (w2.heap.size) (by simp)).1.f2
      have xf3 := (O4.out.st.wrt (w2.heap.size) (by simp)).1.f3
      have P1 := O4.out.set (b := w2.heap.size) (M := [(v3.heap.size, zero4), (w.heap.size + 1, zero4)]) lo (old := zero4) (by simp) (by omega) (by simp; omega)
      generalize hu1 : set4 v4 (w2.heap.size) lo = u1 at P1
      replace P1 := hidden P1
      have Hu1 := hidden hu1
      clear hu1
      refine wpAnyH_ready (rs := [10]) (by kernel_rfl) (by simp) ?_
      refine AllReadyH.cons (o := { dst := none, op := Op.store 32 (Operand.tmp 3) (Operand.tmp 8), type := 0, pos := "bytes.go:33", after := #[{ on := 8, ground := Ground.data }, { on := 3, ground := Ground.data }, { on := 7, ground := Ground.chain }, { on := 0, ground := Ground.phase }, { on := 1, ground := Ground.phase }, { on := 2, ground := Ground.phase }, { on := 3, ground := Ground.phase }, { on := 4, ground := Ground.textOnly Departure.lateStoresUnsure }, { on := 5, ground := Ground.textOnly Departure.lateStores }, { on := 6, ground := Ground.textOnly Departure.lateStores }, { on := 7, ground := Ground.textOnly Departure.lateStoresUnsure }, { on := 8, ground := Ground.phase }, { on := 9, ground := Ground.phase }], guard := none }) rfl (fun K hK => ?_) AllReadyH.nil
      go_simp
      rw [set4_eq, Hu1.out]
      refine hK.out _ _ ⟨P1.out.r1, P1.out.r2⟩ (fun hHeld2 => ?_)
      clear hK K hHeld xq0 xq1 xq2 xq3 xf0 xf1 xf2 xf3
      have hHeld := hHeld2
      clear hHeld2
      have yq0 := (P1.out.st.live (v3.heap.size, zero4) (by simp)).c0
      have yq1 := (P1.out.st.live (v3.heap.size, zero4) (by simp)).c1
      have yq2 := (P1.out.st.live (v3.heap.size, zero4) (by simp)).c2
      have yq3 := (P1.out.st.live (v3.heap.size, zero4) (by simp)).c3
      have yf0 := (P1.out.st.wrt (v3.heap.size) (by simp)).1.f0
      have yf1 := (P1.out.st.wrt (v3.heap.size) (by simp)).1.f1
      have yf2 := (P1.out.st.wrt (v3.heap.size) (by simp)).1.f2
      have yf3 := (P1.out.st.wrt (v3.heap.size) (by simp)).1.f3
      have P2 := P1.out.set (b := v3.heap.size) (M := [(w2.heap.size, lo), (w.heap.size + 1, zero4)]) hi (old := zero4) (by simp) (by omega) (by simp; omega)
      generalize hu2 : set4 u1 (v3.heap.size) hi = u2 at P2
      replace P2 := hidden P2
      have Hu2 := hidden hu2
      clear hu2
      refine wpAnyH_ready (rs := [11]) (by kernel_rfl) (by simp) ?_
      refine AllReadyH.cons (o := { dst := none, op := Op.store 32 (Operand.tmp 4) (Operand.tmp 12), type := 0, pos := "bytes.go:33", after := #[{ on := 9, ground := Ground.data }, { on := 7, ground := Ground.data }, { on := 10, ground := Ground.chain }, { on := 0, ground := Ground.phase }, { on := 1, ground := Ground.phase }, { on := 2, ground := Ground.phase }, { on := 3, ground := Ground.phase }, { on := 4, ground := Ground.phase }, { on := 5, ground := Ground.phase }, { on := 6, ground := Ground.phase }, { on := 7, ground := Ground.phase }, { on := 8, ground := Ground.phase }, { on := 9, ground := Ground.phase }, { on := 10, ground := Ground.phase }], guard := none }) rfl (fun K hK => ?_) AllReadyH.nil
      go_simp
      rw [set4_eq, Hu2.out]
      refine hK.out _ _ ⟨P2.out.r1, P2.out.r2⟩ (fun hHeld2 => ?_)
      clear hK K hHeld yq0 yq1 yq2 yq3 yf0 yf1 yf2 yf3
      have hHeld := hHeld2
      clear hHeld2
      refine wpAnyH_done (by kernel_rfl) ?_ _
      refine NoPanic.normal ?_
      go_wp2_with fail
      go_meet
      exact ⟨w2.heap.size, v3.heap.size, rfl, rfl, by omega, by omega, by omega, P2.out.sub (by simp) (by simp)⟩
    refine AllReadyH.cons (o := { dst := some 4, op := Op.alloc 32, type := 0, pos := "bytes.go:33", after := #[], guard := none }) rfl (fun K hK => ?_) AllReadyH.nil
    ·have O5 : Hid (WW w [(w2.heap.size, zero4), (w.heap.size + 1, zero4)] [w2.heap.size, w.heap.size + 1] los his _) := hidden (by have k := O2.out.room 32; simpa only [World.size_alloc] using k)
     go_simp
     refine hK.out _ _ ⟨O5.out.r1, O5.out.r2⟩ (fun hHeld2 => ?_)
     clear hK K hHeld
     have hHeld := hHeld2
     clear hHeld2
     generalize w2.alloc (.cells #[.int .u64 0, .int .u64 0, .int .u64 0, .int .u64 0] 32) = v5 at *
     have l5_0 : w2.heap.size < v5.heap.size := (O5.out.st.live (w2.heap.size, zero4) (by simp)).lt
     have l5_1 : w.heap.size + 1 < v5.heap.size := (O5.out.st.live (w.heap.size + 1, zero4) (by simp)).lt
     refine wpAnyH_ready (rs := [8]) (by kernel_rfl) (by simp) ?_
     refine AllReadyH.cons (o := { dst := some 3, op := Op.alloc 32, type := 0, pos := "bytes.go:33", after := #[], guard := none }) rfl (fun K hK => ?_) AllReadyH.nil
     ·have O6 : Hid (WW w [(v5.heap.size, zero4), (w2.heap.size, zero4), (w.heap.size + 1, zero4)] [v5.heap.size, w2.heap.size, w.heap.size + 1] los his _) := hidden (by have k := O5.out.room 32; simpa only [World.size_alloc] using k)
      go_simp
      refine hK.out _ _ ⟨O6.out.r1, O6.out.r2⟩ (fun hHeld2 => ?_)
      clear hK K hHeld
      have hHeld := hHeld2
      clear hHeld2
      generalize v5.alloc (.cells #[.int .u64 0, .int .u64 0, .int .u64 0, .int .u64 0] 32) = v6 at *
      have l6_0 : v5.heap.size < v6.heap.size := (O6.out.st.live (v5.heap.size, zero4) (by simp)).lt
      have l6_1 : w2.heap.size < v6.heap.size := (O6.out.st.live (w2.heap.size, zero4) (by simp)).lt
      have l6_2 : w.heap.size + 1 < v6.heap.size := (O6.out.st.live (w.heap.size + 1, zero4) (by simp)).lt
      have xq0 := (O6.out.st.live (v5.heap.size, zero4) (by simp)).c0
      have xq1 := (O6.out.st.live (v5.heap.size, zero4) (by simp)).c1
      have xq2 := (O6.out.st.live (v5.heap.size, zero4) (by simp)).c2
      have xq3 := (O6.out.st.live (v5.heap.size, zero4) (by simp)).c3
      have xf0 := (O6.out.st.wrt (v5.heap.size) (by simp)).1.f0
      have xf1 := (O6.out.st.wrt (v5.heap.size) (by simp)).1.f1
      have xf2 := (O6.out.st.wrt (v5.heap.size) (by simp)).1.f2
      have xf3 := (O6.out.st.wrt (v5.heap.size) (by simp)).1.f3
      have P1 := O6.out.set (b := v5.heap.size) (M := [(w2.heap.size, zero4), (w.heap.size + 1, zero4)]) lo (old := zero4) (by simp) (by omega) (by simp; omega)
      generalize hu1 : set4 v6 (v5.heap.size) lo = u1 at P1
      replace P1 := hidden P1
      have Hu1 := hidden hu1
      clear hu1
      refine wpAnyH_ready (rs := [10]) (by kernel_rfl) (by simp) ?_
      refine AllReadyH.cons (o := { dst := none, op := Op.store 32 (Operand.tmp 3) (Operand.tmp 8), type := 0, pos := "bytes.go:33", after := #[{ on := 8, ground := Ground.data }, { on := 3, ground := Ground.data }, { on := 7, ground := Ground.chain }, { on := 0, ground := Ground.phase }, { on := 1, ground := Ground.phase }, { on := 2, ground := Ground.phase }, { on := 3, ground := Ground.phase }, { on := 4, ground := Ground.textOnly Departure.lateStoresUnsure }, { on := 5, ground := Ground.textOnly Departure.lateStores }, { on := 6, ground := Ground.textOnly Departure.lateStores }, { on := 7, ground := Ground.textOnly Departure.lateStoresUnsure }, { on := 8, ground := Ground.phase }, { on := 9, ground := Ground.phase }], guard := none }) rfl (fun K hK => ?_) AllReadyH.nil
      go_simp
      rw [set4_eq, Hu1.out]
      refine hK.out _ _ ⟨P1.out.r1, P1.out.r2⟩ (fun hHeld2 => ?_)
      clear hK K hHeld xq0 xq1 xq2 xq3 xf0 xf1 xf2 xf3
      have hHeld := hHeld2
      clear hHeld2
      have yq0 := (P1.out.st.live (w2.heap.size, zero4) (by simp)).c0
      have yq1 := (P1.out.st.live (w2.heap.size, zero4) (by simp)).c1
      have yq2 := (P1.out.st.live (w2.heap.size, zero4) (by simp)).c2
      have yq3 := (P1.out.st.live (w2.heap.size, zero4) (by simp)).c3
      have yf0 := (P1.out.st.wrt (w2.heap.size) (by simp)).1.f0
      have yf1 := (P1.out.st.wrt (w2.heap.size) (by simp)).1.f1
      have yf2 := (P1.out.st.wrt (w2.heap.size) (by simp)).1.f2
      have yf3 := (P1.out.st.wrt (w2.heap.size) (by simp)).1.f3
      have P2 := P1.out.set (b := w2.heap.size) (M := [(v5.heap.size, lo), (w.heap.size + 1, zero4)]) hi (old := zero4) (by simp) (by omega) (by simp; omega)
      generalize hu2 : set4 u1 (w2.heap.size) hi = u2 at P2
      replace P2 := hidden P2
      have Hu2 := hidden hu2
      clear hu2
      refine wpAnyH_ready (rs := [11]) (by kernel_rfl) (by simp) ?_
      refine AllReadyH.cons (o := { dst := none, op := Op.store 32 (Operand.tmp 4) (Operand.tmp 12), type := 0, pos := "bytes.go:33", after := #[{ on := 9, ground := Ground.data }, { on := 7, ground := Ground.data }, { on := 10, ground := Ground.chain }, { on := 0, ground := Ground.phase }, { on := 1, ground := Ground.phase }, { on := 2, ground := Ground.phase }, { on := 3, ground := Ground.phase }, { on := 4, ground := Ground.phase }, { on := 5, ground := Ground.phase }, { on := 6, ground := Ground.phase }, { on := 7, ground := Ground.phase }, { on := 8, ground := Ground.phase }, { on := 9, ground := Ground.phase }, { on := 10, ground := Ground.phase }], guard := none }) rfl (fun K hK => ?_) AllReadyH.nil
      go_simp
      rw [set4_eq, Hu2.out]
      refine hK.out _ _ ⟨P2.out.r1, P2.out.r2⟩ (fun hHeld2 => ?_)
      clear hK K hHeld yq0 yq1 yq2 yq3 yf0 yf1 yf2 yf3
      have hHeld := hHeld2
      clear hHeld2
      refine wpAnyH_done (by kernel_rfl) ?_ _
      refine NoPanic.normal ?_
      go_wp2_with fail
      go_meet
      exact ⟨v5.heap.size, w2.heap.size, rfl, rfl, by omega, by omega, by omega, P2.out.sub (by simp) (by simp)⟩
   refine AllReadyH.cons (o := { dst := some 3, op := Op.alloc 32, type := 0, pos := "bytes.go:33", after := #[], guard := none }) rfl (fun K hK => ?_) ?_
   ·have O7 : Hid (WW w [(w1.heap.size, zero4), (w.heap.size + 1, zero4)] [w1.heap.size, w.heap.size + 1] los his _) := hidden (by have k := O1.out.room 32; simpa only [World.size_alloc] using k)
    go_simp
    refine hK.out _ _ ⟨O7.out.r1, O7.out.r2⟩ (fun hHeld2 => ?_)
    clear hK K hHeld
    have hHeld := hHeld2
    clear hHeld2
    generalize w1.alloc (.cells #[.int .u64 0, .int .u64 0, .int .u64 0, .int .u64 0] 32) = v7 at *
    have l7_0 : w1.heap.size < v7.heap.size := (O7.out.st.live (w1.heap.size, zero4) (by simp)).lt
    have l7_1 : w.heap.size + 1 < v7.heap.size := (O7.out.st.live (w.heap.size + 1, zero4) (by simp)).lt
    refine wpAnyH_ready (rs := [7, 9]) (by kernel_rfl) (by simp) ?_
    refine AllReadyH.cons (o := { dst := some 12, op := Op.call { callee := Callee.value (Operand.func 49), args := #[Operand.tmp 11], argTypes := #[128] }, type := 32, pos := "bytes.go:33", after := #[{ on := 6, ground := Ground.data }, { on := 3, ground := Ground.chain }], guard := none }) rfl (fun K hK => ?_) ?_
    ·go_simp
     refine (rh.out _).mono ?_
     rintro e w8 ⟨rfl, hb8⟩
     have O8 := hidden (O7.out.keep hb8)
     have l8_0 : w1.heap.size < w8.heap.size := (O8.out.st.live (w1.heap.size, zero4) (by simp)).lt
     have l8_1 : w.heap.size + 1 < w8.heap.size := (O8.out.st.live (w.heap.size + 1, zero4) (by simp)).lt
     go_wp2_with fail
     refine hK.out _ _ ⟨O8.out.r1, O8.out.r2⟩ (fun hHeld2 => ?_)
     clear hK K hHeld
     have hHeld := hHeld2
     clear hHeld2
     refine wpAnyH_ready (rs := [9]) (by kernel_rfl) (by simp) ?_
     refine AllReadyH.cons (o := { dst := some 4, op := Op.alloc 32, type := 0, pos := "bytes.go:33", after := #[], guard := none }) rfl (fun K hK => ?_) AllReadyH.nil
     ·have O9 : Hid (WW w [(w8.heap.size, zero4), (w1.heap.size, zero4), (w.heap.size + 1, zero4)] [w8.heap.size, w1.heap.size, w.heap.size + 1] los his _) := hidden (by have k := O8.out.room 32; simpa only [World.size_alloc] using k)
      go_simp
      refine hK.out _ _ ⟨O9.out.r1, O9.out.r2⟩ (fun hHeld2 => ?_)
      clear hK K hHeld
      have hHeld := hHeld2
      clear hHeld2
      generalize w8.alloc (.cells #[.int .u64 0, .int .u64 0, .int .u64 0, .int .u64 0] 32) = v9 at *
      have l9_0 : w8.heap.size < v9.heap.size := (O9.out.st.live (w8.heap.size, zero4) (by simp)).lt
      have l9_1 : w1.heap.size < v9.heap.size := (O9.out.st.live (w1.heap.size, zero4) (by simp)).lt
      have l9_2 : w.heap.size + 1 < v9.heap.size := (O9.out.st.live (w.heap.size + 1, zero4) (by simp)).lt
      have xq0 := (O9.out.st.live (w1.heap.size, zero4) (by simp)).c0
      have xq1 := (O9.out.st.live (w1.heap.size, zero4) (by simp)).c1
      have xq2 := (O9.out.st.live (w1.heap.size, zero4) (by simp)).c2
      have xq3 := (O9.out.st.live (w1.heap.size, zero4) (by simp)).c3
      have xf0 := (O9.out.st.wrt (w1.heap.size) (by simp)).1.f0
      have xf1 := (O9.out.st.wrt (w1.heap.size) (by simp)).1.f1
      have xf2 := (O9.out.st.wrt (w1.heap.size) (by simp)).1.f2
      have xf3 := (O9.out.st.wrt (w1.heap.size) (by simp)).1.f3
      have P1 := O9.out.set (b := w1.heap.size) (M := [(w8.heap.size, zero4), (w.heap.size + 1, zero4)]) lo (old := zero4) (by simp) (by omega) (by simp; omega)
      generalize hu1 : set4 v9 (w1.heap.size) lo = u1 at P1
      replace P1 := hidden P1
      have Hu1 := hidden hu1
      clear hu1
      refine wpAnyH_ready (rs := [10]) (by kernel_rfl) (by simp) ?_
      refine AllReadyH.cons (o := { dst := none, op := Op.store 32 (Operand.tmp 3) (Operand.tmp 8), type := 0, pos := "bytes.go:33", after := #[{ on := 8, ground := Ground.data }, { on := 3, ground := Ground.data }, { on := 7, ground := Ground.chain }, { on := 0, ground := Ground.phase }, { on := 1, ground := Ground.phase }, { on := 2, ground := Ground.phase }, { on := 3, ground := Ground.phase }, { on := 4, ground := Ground.textOnly Departure.lateStoresUnsure }, { on := 5, ground := Ground.textOnly Departure.lateStores }, { on := 6, ground := Ground.textOnly Departure.lateStores }, { on := 7, ground := Ground.textOnly Departure.lateStoresUnsure }, { on := 8, ground := Ground.phase }, { on := 9, ground := Ground.phase }], guard := none }) rfl (fun K hK => ?_) AllReadyH.nil
      go_simp
      rw [set4_eq, Hu1.out]
      refine hK.out _ _ ⟨P1.out.r1, P1.out.r2⟩ (fun hHeld2 => ?_)
      clear hK K hHeld xq0 xq1 xq2 xq3 xf0 xf1 xf2 xf3
      have hHeld := hHeld2
      clear hHeld2
      have yq0 := (P1.out.st.live (w8.heap.size, zero4) (by simp)).c0
      have yq1 := (P1.out.st.live (w8.heap.size, zero4) (by simp)).c1
      have yq2 := (P1.out.st.live (w8.heap.size, zero4) (by simp)).c2
      have yq3 := (P1.out.st.live (w8.heap.size, zero4) (by simp)).c3
      have yf0 := (P1.out.st.wrt (w8.heap.size) (by simp)).1.f0
      have yf1 := (P1.out.st.wrt (w8.heap.size) (by simp)).1.f1
      have yf2 := (P1.out.st.wrt (w8.heap.size) (by simp)).1.f2
      have yf3 := (P1.out.st.wrt (w8.heap.size) (by simp)).1.f3
      have P2 := P1.out.set (b := w8.heap.size) (M := [(w1.heap.size, lo), (w.heap.size + 1, zero4)]) hi (old := zero4) (by simp) (by omega) (by simp; omega)
      generalize hu2 : set4 u1 (w8.heap.size) hi = u2 at P2
      replace P2 := hidden P2
      have Hu2 := hidden hu2
      clear hu2
      refine wpAnyH_ready (rs := [11]) (by kernel_rfl) (by simp) ?_
      refine AllReadyH.cons (o := { dst := none, op := Op.store 32 (Operand.tmp 4) (Operand.tmp 12), type := 0, pos := "bytes.go:33", after := #[{ on := 9, ground := Ground.data }, { on := 7, ground := Ground.data }, { on := 10, ground := Ground.chain }, { on := 0, ground := Ground.phase }, { on := 1, ground := Ground.phase }, { on := 2, ground := Ground.phase }, { on := 3, ground := Ground.phase }, { on := 4, ground := Ground.phase }, { on := 5, ground := Ground.phase }, { on := 6, ground := Ground.phase }, { on := 7, ground := Ground.phase }, { on := 8, ground := Ground.phase }, { on := 9, ground := Ground.phase }, { on := 10, ground := Ground.phase }], guard := none }) rfl (fun K hK => ?_) AllReadyH.nil
      go_simp
      rw [set4_eq, Hu2.out]
      refine hK.out _ _ ⟨P2.out.r1, P2.out.r2⟩ (fun hHeld2 => ?_)
      clear hK K hHeld yq0 yq1 yq2 yq3 yf0 yf1 yf2 yf3
      have hHeld := hHeld2
      clear hHeld2
      refine wpAnyH_done (by kernel_rfl) ?_ _
      refine NoPanic.normal ?_
      go_wp2_with fail
      go_meet
      exact ⟨w1.heap.size, w8.heap.size, rfl, rfl, by omega, by omega, by omega, P2.out.sub (by simp) (by simp)⟩
    refine AllReadyH.cons (o := { dst := some 4, op := Op.alloc 32, type := 0, pos := "bytes.go:33", after := #[], guard := none }) rfl (fun K hK => ?_) AllReadyH.nil
    ·have O10 : Hid (WW w [(v7.heap.size, zero4), (w1.heap.size, zero4), (w.heap.size + 1, zero4)] [v7.heap.size, w1.heap.size, w.heap.size + 1] los his _) := hidden (by have k := O7.out.room 32; simpa only [World.size_alloc] using k)
     go_simp
     refine hK.out _ _ ⟨O10.out.r1, O10.out.r2⟩ (fun hHeld2 => ?_)
     clear hK K hHeld
     have hHeld := hHeld2
     clear hHeld2
     generalize v7.alloc (.cells #[.int .u64 0, .int .u64 0, .int .u64 0, .int .u64 0] 32) = v10 at *
     have l10_0 : v7.heap.size < v10.heap.size := (O10.out.st.live (v7.heap.size, zero4) (by simp)).lt
     have l10_1 : w1.heap.size < v10.heap.size := (O10.out.st.live (w1.heap.size, zero4) (by simp)).lt
     have l10_2 : w.heap.size + 1 < v10.heap.size := (O10.out.st.live (w.heap.size + 1, zero4) (by simp)).lt
     refine wpAnyH_ready (rs := [7]) (by kernel_rfl) (by simp) ?_
     refine AllReadyH.cons (o := { dst := some 12, op := Op.call { callee := Callee.value (Operand.func 49), args := #[Operand.tmp 11], argTypes := #[128] }, type := 32, pos := "bytes.go:33", after := #[{ on := 6, ground := Ground.data }, { on := 3, ground := Ground.chain }], guard := none }) rfl (fun K hK => ?_) AllReadyH.nil
     ·go_simp
      refine (rh.out _).mono ?_
      rintro e w11 ⟨rfl, hb11⟩
      have O11 := hidden (O10.out.keep hb11)
      have l11_0 : v7.heap.size < w11.heap.size := (O11.out.st.live (v7.heap.size, zero4) (by simp)).lt
      have l11_1 : w1.heap.size < w11.heap.size := (O11.out.st.live (w1.heap.size, zero4) (by simp)).lt
      have l11_2 : w.heap.size + 1 < w11.heap.size := (O11.out.st.live (w.heap.size + 1, zero4) (by simp)).lt
      go_wp2_with fail
      refine hK.out _ _ ⟨O11.out.r1, O11.out.r2⟩ (fun hHeld2 => ?_)
      clear hK K hHeld
      have hHeld := hHeld2
      clear hHeld2
      have xq0 := (O11.out.st.live (w1.heap.size, zero4) (by simp)).c0
      have xq1 := (O11.out.st.live (w1.heap.size, zero4) (by simp)).c1
      have xq2 := (O11.out.st.live (w1.heap.size, zero4) (by simp)).c2
      have xq3 := (O11.out.st.live (w1.heap.size, zero4) (by simp)).c3
      have xf0 := (O11.out.st.wrt (w1.heap.size) (by simp)).1.f0
      have xf1 := (O11.out.st.wrt (w1.heap.size) (by simp)).1.f1
      have xf2 := (O11.out.st.wrt (w1.heap.size) (by simp)).1.f2
      have xf3 := (O11.out.st.wrt (w1.heap.size) (by simp)).1.f3
      have P1 := O11.out.set (b := w1.heap.size) (M := [(v7.heap.size, zero4), (w.heap.size + 1, zero4)]) lo (old := zero4) (by simp) (by omega) (by simp; omega)
      generalize hu1 : set4 w11 (w1.heap.size) lo = u1 at P1
      replace P1 := hidden P1
      have Hu1 := hidden hu1
      clear hu1
      refine wpAnyH_ready (rs := [10]) (by kernel_rfl) (by simp) ?_
      refine AllReadyH.cons (o := { dst := none, op := Op.store 32 (Operand.tmp 3) (Operand.tmp 8), type := 0, pos := "bytes.go:33", after := #[{ on := 8, ground := Ground.data }, { on := 3, ground := Ground.data }, { on := 7, ground := Ground.chain }, { on := 0, ground := Ground.phase }, { on := 1, ground := Ground.phase }, { on := 2, ground := Ground.phase }, { on := 3, ground := Ground.phase }, { on := 4, ground := Ground.textOnly Departure.lateStoresUnsure }, { on := 5, ground := Ground.textOnly Departure.lateStores }, { on := 6, ground := Ground.textOnly Departure.lateStores }, { on := 7, ground := Ground.textOnly Departure.lateStoresUnsure }, { on := 8, ground := Ground.phase }, { on := 9, ground := Ground.phase }], guard := none }) rfl (fun K hK => ?_) AllReadyH.nil
      go_simp
      rw [set4_eq, Hu1.out]
      refine hK.out _ _ ⟨P1.out.r1, P1.out.r2⟩ (fun hHeld2 => ?_)
      clear hK K hHeld xq0 xq1 xq2 xq3 xf0 xf1 xf2 xf3
      have hHeld := hHeld2
      clear hHeld2
      have yq0 := (P1.out.st.live (v7.heap.size, zero4) (by simp)).c0
      have yq1 := (P1.out.st.live (v7.heap.size, zero4) (by simp)).c1
      have yq2 := (P1.out.st.live (v7.heap.size, zero4) (by simp)).c2
      have yq3 := (P1.out.st.live (v7.heap.size, zero4) (by simp)).c3
      have yf0 := (P1.out.st.wrt (v7.heap.size) (by simp)).1.f0
      have yf1 := (P1.out.st.wrt (v7.heap.size) (by simp)).1.f1
      have yf2 := (P1.out.st.wrt (v7.heap.size) (by simp)).1.f2
      have yf3 := (P1.out.st.wrt (v7.heap.size) (by simp)).1.f3
      have P2 := P1.out.set (b := v7.heap.size) (M := [(w1.heap.size, lo), (w.heap.size + 1, zero4)]) hi (old := zero4) (by simp) (by omega) (by simp; omega)
      generalize hu2 : set4 u1 (v7.heap.size) hi = u2 at P2
      replace P2 := hidden P2
      have Hu2 := hidden hu2
      clear hu2
      refine wpAnyH_ready (rs := [11]) (by kernel_rfl) (by simp) ?_
      refine AllReadyH.cons (o := { dst := none, op := Op.store 32 (Operand.tmp 4) (Operand.tmp 12), type := 0, pos := "bytes.go:33", after := #[{ on := 9, ground := Ground.data }, { on := 7, ground := Ground.data }, { on := 10, ground := Ground.chain }, { on := 0, ground := Ground.phase }, { on := 1, ground := Ground.phase }, { on := 2, ground := Ground.phase }, { on := 3, ground := Ground.phase }, { on := 4, ground := Ground.phase }, { on := 5, ground := Ground.phase }, { on := 6, ground := Ground.phase }, { on := 7, ground := Ground.phase }, { on := 8, ground := Ground.phase }, { on := 9, ground := Ground.phase }, { on := 10, ground := Ground.phase }], guard := none }) rfl (fun K hK => ?_) AllReadyH.nil
      go_simp
      rw [set4_eq, Hu2.out]
      refine hK.out _ _ ⟨P2.out.r1, P2.out.r2⟩ (fun hHeld2 => ?_)
      clear hK K hHeld yq0 yq1 yq2 yq3 yf0 yf1 yf2 yf3
      have hHeld := hHeld2
      clear hHeld2
      refine wpAnyH_done (by kernel_rfl) ?_ _
      refine NoPanic.normal ?_
      go_wp2_with fail
      go_meet
      exact ⟨w1.heap.size, v7.heap.size, rfl, rfl, by omega, by omega, by omega, P2.out.sub (by simp) (by simp)⟩
   refine AllReadyH.cons (o := { dst := some 4, op := Op.alloc 32, type := 0, pos := "bytes.go:33", after := #[], guard := none }) rfl (fun K hK => ?_) AllReadyH.nil
   ·have O12 : Hid (WW w [(w1.heap.size, zero4), (w.heap.size + 1, zero4)] [w1.heap.size, w.heap.size + 1] los his _) := hidden (by have k := O1.out.room 32; simpa only [World.size_alloc] using k)
    go_simp
    refine hK.out _ _ ⟨O12.out.r1, O12.out.r2⟩ (fun hHeld2 => ?_)
    clear hK K hHeld
    have hHeld := hHeld2
    clear hHeld2
    generalize w1.alloc (.cells #[.int .u64 0, .int .u64 0, .int .u64 0, .int .u64 0] 32) = v12 at *
    have l12_0 : w1.heap.size < v12.heap.size := (O12.out.st.live (w1.heap.size, zero4) (by simp)).lt
    have l12_1 : w.heap.size + 1 < v12.heap.size := (O12.out.st.live (w.heap.size + 1, zero4) (by simp)).lt
    refine wpAnyH_ready (rs := [7, 8]) (by kernel_rfl) (by simp) ?_
    refine AllReadyH.cons (o := { dst := some 12, op := Op.call { callee := Callee.value (Operand.func 49), args := #[Operand.tmp 11], argTypes := #[128] }, type := 32, pos := "bytes.go:33", after := #[{ on := 6, ground := Ground.data }, { on := 3, ground := Ground.chain }], guard := none }) rfl (fun K hK => ?_) ?_
    ·go_simp
     refine (rh.out _).mono ?_
     rintro e w13 ⟨rfl, hb13⟩
     have O13 := hidden (O12.out.keep hb13)
     have l13_0 : w1.heap.size < w13.heap.size := (O13.out.st.live (w1.heap.size, zero4) (by simp)).lt
     have l13_1 : w.heap.size + 1 < w13.heap.size := (O13.out.st.live (w.heap.size + 1, zero4) (by simp)).lt
     go_wp2_with fail
     refine hK.out _ _ ⟨O13.out.r1, O13.out.r2⟩ (fun hHeld2 => ?_)
     clear hK K hHeld
     have hHeld := hHeld2
     clear hHeld2
     refine wpAnyH_ready (rs := [8]) (by kernel_rfl) (by simp) ?_
     refine AllReadyH.cons (o := { dst := some 3, op := Op.alloc 32, type := 0, pos := "bytes.go:33", after := #[], guard := none }) rfl (fun K hK => ?_) AllReadyH.nil
     ·have O14 : Hid (WW w [(w13.heap.size, zero4), (w1.heap.size, zero4), (w.heap.size + 1, zero4)] [w13.heap.size, w1.heap.size, w.heap.size + 1] los his _) := hidden (by have k := O13.out.room 32; simpa only [World.size_alloc] using k)
      go_simp
      refine hK.out _ _ ⟨O14.out.r1, O14.out.r2⟩ (fun hHeld2 => ?_)
      clear hK K hHeld
      have hHeld := hHeld2
      clear hHeld2
      generalize w13.alloc (.cells #[.int .u64 0, .int .u64 0, .int .u64 0, .int .u64 0] 32) = v14 at *
      have l14_0 : w13.heap.size < v14.heap.size := (O14.out.st.live (w13.heap.size, zero4) (by simp)).lt
      have l14_1 : w1.heap.size < v14.heap.size := (O14.out.st.live (w1.heap.size, zero4) (by simp)).lt
      have l14_2 : w.heap.size + 1 < v14.heap.size := (O14.out.st.live (w.heap.size + 1, zero4) (by simp)).lt
      have xq0 := (O14.out.st.live (w13.heap.size, zero4) (by simp)).c0
      have xq1 := (O14.out.st.live (w13.heap.size, zero4) (by simp)).c1
      have xq2 := (O14.out.st.live (w13.heap.size, zero4) (by simp)).c2
      have xq3 := (O14.out.st.live (w13.heap.size, zero4) (by simp)).c3
      have xf0 := (O14.out.st.wrt (w13.heap.size) (by simp)).1.f0
      have xf1 := (O14.out.st.wrt (w13.heap.size) (by simp)).1.f1
      have xf2 := (O14.out.st.wrt (w13.heap.size) (by simp)).1.f2
      have xf3 := (O14.out.st.wrt (w13.heap.size) (by simp)).1.f3
      have P1 := O14.out.set (b := w13.heap.size) (M := [(w1.heap.size, zero4), (w.heap.size + 1, zero4)]) lo (old := zero4) (by simp) (by omega) (by simp; omega)
      generalize hu1 : set4 v14 (w13.heap.size) lo = u1 at P1
      replace P1 := hidden P1
      have Hu1 := hidden hu1
      clear hu1
      refine wpAnyH_ready (rs := [10]) (by kernel_rfl) (by simp) ?_
      refine AllReadyH.cons (o := { dst := none, op := Op.store 32 (Operand.tmp 3) (Operand.tmp 8), type := 0, pos := "bytes.go:33", after := #[{ on := 8, ground := Ground.data }, { on := 3, ground := Ground.data }, { on := 7, ground := Ground.chain }, { on := 0, ground := Ground.phase }, { on := 1, ground := Ground.phase }, { on := 2, ground := Ground.phase }, { on := 3, ground := Ground.phase }, { on := 4, ground := Ground.textOnly Departure.lateStoresUnsure }, { on := 5, ground := Ground.textOnly Departure.lateStores }, { on := 6, ground := Ground.textOnly Departure.lateStores }, { on := 7, ground := Ground.textOnly Departure.lateStoresUnsure }, { on := 8, ground := Ground.phase }, { on := 9, ground := Ground.phase }], guard := none }) rfl (fun K hK => ?_) AllReadyH.nil
      go_simp
      rw [set4_eq, Hu1.out]
      refine hK.out _ _ ⟨P1.out.r1, P1.out.r2⟩ (fun hHeld2 => ?_)
      clear hK K hHeld xq0 xq1 xq2 xq3 xf0 xf1 xf2 xf3
      have hHeld := hHeld2
      clear hHeld2
      have yq0 := (P1.out.st.live (w1.heap.size, zero4) (by simp)).c0
      have yq1 := (P1.out.st.live (w1.heap.size, zero4) (by simp)).c1
      have yq2 := (P1.out.st.live (w1.heap.size, zero4) (by simp)).c2
      have yq3 := (P1.out.st.live (w1.heap.size, zero4) (by simp)).c3
      have yf0 := (P1.out.st.wrt (w1.heap.size) (by simp)).1.f0
      have yf1 := (P1.out.st.wrt (w1.heap.size) (by simp)).1.f1
      have yf2 := (P1.out.st.wrt (w1.heap.size) (by simp)).1.f2
      have yf3 := (P1.out.st.wrt (w1.heap.size) (by simp)).1.f3
      have P2 := P1.out.set (b := w1.heap.size) (M := [(w13.heap.size, lo), (w.heap.size + 1, zero4)]) hi (old := zero4) (by simp) (by omega) (by simp; omega)
      generalize hu2 : set4 u1 (w1.heap.size) hi = u2 at P2
      replace P2 := hidden P2
      have Hu2 := hidden hu2
      clear hu2
      refine wpAnyH_ready (rs := [11]) (by kernel_rfl) (by simp) ?_
      refine AllReadyH.cons (o := { dst := none, op := Op.store 32 (Operand.tmp 4) (Operand.tmp 12), type := 0, pos := "bytes.go:33", after := #[{ on := 9, ground := Ground.data }, { on := 7, ground := Ground.data }, { on := 10, ground := Ground.chain }, { on := 0, ground := Ground.phase }, { on := 1, ground := Ground.phase }, { on := 2, ground := Ground.phase }, { on := 3, ground := Ground.phase }, { on := 4, ground := Ground.phase }, { on := 5, ground := Ground.phase }, { on := 6, ground := Ground.phase }, { on := 7, ground := Ground.phase }, { on := 8, ground := Ground.phase }, { on := 9, ground := Ground.phase }, { on := 10, ground := Ground.phase }], guard := none }) rfl (fun K hK => ?_) AllReadyH.nil
      go_simp
      rw [set4_eq, Hu2.out]
      refine hK.out _ _ ⟨P2.out.r1, P2.out.r2⟩ (fun hHeld2 => ?_)
      clear hK K hHeld yq0 yq1 yq2 yq3 yf0 yf1 yf2 yf3
      have hHeld := hHeld2
      clear hHeld2
      refine wpAnyH_done (by kernel_rfl) ?_ _
      refine NoPanic.normal ?_
      go_wp2_with fail
      go_meet
      exact ⟨w13.heap.size, w1.heap.size, rfl, rfl, by omega, by omega, by omega, P2.out.sub (by simp) (by simp)⟩
    refine AllReadyH.cons (o := { dst := some 3, op := Op.alloc 32, type := 0, pos := "bytes.go:33", after := #[], guard := none }) rfl (fun K hK => ?_) AllReadyH.nil
    ·have O15 : Hid (WW w [(v12.heap.size, zero4), (w1.heap.size, zero4), (w.heap.size + 1, zero4)] [v12.heap.size, w1.heap.size, w.heap.size + 1] los his _) := hidden (by have k := O12.out.room 32; simpa only [World.size_alloc] using k)
     go_simp
     refine hK.out _ _ ⟨O15.out.r1, O15.out.r2⟩ (fun hHeld2 => ?_)
     clear hK K hHeld
     have hHeld := hHeld2
     clear hHeld2
     generalize v12.alloc (.cells #[.int .u64 0, .int .u64 0, .int .u64 0, .int .u64 0] 32) = v15 at *
     have l15_0 : v12.heap.size < v15.heap.size := (O15.out.st.live (v12.heap.size, zero4) (by simp)).lt
     have l15_1 : w1.heap.size < v15.heap.size := (O15.out.st.live (w1.heap.size, zero4) (by simp)).lt
     have l15_2 : w.heap.size + 1 < v15.heap.size := (O15.out.st.live (w.heap.size + 1, zero4) (by simp)).lt
     refine wpAnyH_ready (rs := [7]) (by kernel_rfl) (by simp) ?_
     refine AllReadyH.cons (o := { dst := some 12, op := Op.call { callee := Callee.value (Operand.func 49), args := #[Operand.tmp 11], argTypes := #[128] }, type := 32, pos := "bytes.go:33", after := #[{ on := 6, ground := Ground.data }, { on := 3, ground := Ground.chain }], guard := none }) rfl (fun K hK => ?_) AllReadyH.nil
     ·go_simp
      refine (rh.out _).mono ?_
      rintro e w16 ⟨rfl, hb16⟩
      have O16 := hidden (O15.out.keep hb16)
      have l16_0 : v12.heap.size < w16.heap.size := (O16.out.st.live (v12.heap.size, zero4) (by simp)).lt
      have l16_1 : w1.heap.size < w16.heap.size := (O16.out.st.live (w1.heap.size, zero4) (by simp)).lt
      have l16_2 : w.heap.size + 1 < w16.heap.size := (O16.out.st.live (w.heap.size + 1, zero4) (by simp)).lt
      go_wp2_with fail
      refine hK.out _ _ ⟨O16.out.r1, O16.out.r2⟩ (fun hHeld2 => ?_)
      clear hK K hHeld
      have hHeld := hHeld2
      clear hHeld2
      have xq0 := (O16.out.st.live (v12.heap.size, zero4) (by simp)).c0
      have xq1 := (O16.out.st.live (v12.heap.size, zero4) (by simp)).c1
      have xq2 := (O16.out.st.live (v12.heap.size, zero4) (by simp)).c2
      have xq3 := (O16.out.st.live (v12.heap.size, zero4) (by simp)).c3
      have xf0 := (O16.out.st.wrt (v12.heap.size) (by simp)).1.f0
      have xf1 := (O16.out.st.wrt (v12.heap.size) (by simp)).1.f1
      have xf2 := (O16.out.st.wrt (v12.heap.size) (by simp)).1.f2
      have xf3 := (O16.out.st.wrt (v12.heap.size) (by simp)).1.f3
      have P1 := O16.out.set (b := v12.heap.size) (M := [(w1.heap.size, zero4), (w.heap.size + 1, zero4)]) lo (old := zero4) (by simp) (by omega) (by simp; omega)
      generalize hu1 : set4 w16 (v12.heap.size) lo = u1 at P1
      replace P1 := hidden P1
      have Hu1 := hidden hu1
      clear hu1
      refine wpAnyH_ready (rs := [10]) (by kernel_rfl) (by simp) ?_
      refine AllReadyH.cons (o := { dst := none, op := Op.store 32 (Operand.tmp 3) (Operand.tmp 8), type := 0, pos := "bytes.go:33", after := #[{ on := 8, ground := Ground.data }, { on := 3, ground := Ground.data }, { on := 7, ground := Ground.chain }, { on := 0, ground := Ground.phase }, { on := 1, ground := Ground.phase }, { on := 2, ground := Ground.phase }, { on := 3, ground := Ground.phase }, { on := 4, ground := Ground.textOnly Departure.lateStoresUnsure }, { on := 5, ground := Ground.textOnly Departure.lateStores }, { on := 6, ground := Ground.textOnly Departure.lateStores }, { on := 7, ground := Ground.textOnly Departure.lateStoresUnsure }, { on := 8, ground := Ground.phase }, { on := 9, ground := Ground.phase }], guard := none }) rfl (fun K hK => ?_) AllReadyH.nil
      go_simp
      rw [set4_eq, Hu1.out]
      refine hK.out _ _ ⟨P1.out.r1, P1.out.r2⟩ (fun hHeld2 => ?_)
      clear hK K hHeld xq0 xq1 xq2 xq3 xf0 xf1 xf2 xf3
      have hHeld := hHeld2
      clear hHeld2
      have yq0 := (P1.out.st.live (w1.heap.size, zero4) (by simp)).c0
      have yq1 := (P1.out.st.live (w1.heap.size, zero4) (by simp)).c1
      have yq2 := (P1.out.st.live (w1.heap.size, zero4) (by simp)).c2
      have yq3 := (P1.out.st.live (w1.heap.size, zero4) (by simp)).c3
      have yf0 := (P1.out.st.wrt (w1.heap.size) (by simp)).1.f0
      have yf1 := (P1.out.st.wrt (w1.heap.size) (by simp)).1.f1
      have yf2 := (P1.out.st.wrt (w1.heap.size) (by simp)).1.f2
      have yf3 := (P1.out.st.wrt (w1.heap.size) (by simp)).1.f3
      have P2 := P1.out.set (b := w1.heap.size) (M := [(v12.heap.size, lo), (w.heap.size + 1, zero4)]) hi (old := zero4) (by simp) (by omega) (by simp; omega)
      generalize hu2 : set4 u1 (w1.heap.size) hi = u2 at P2
      replace P2 := hidden P2
      have Hu2 := hidden hu2
      clear hu2
      refine wpAnyH_ready (rs := [11]) (by kernel_rfl) (by simp) ?_
      refine AllReadyH.cons (o := { dst := none, op := Op.store 32 (Operand.tmp 4) (Operand.tmp 12), type := 0, pos := "bytes.go:33", after := #[{ on := 9, ground := Ground.data }, { on := 7, ground := Ground.data }, { on := 10, ground := Ground.chain }, { on := 0, ground := Ground.phase }, { on := 1, ground := Ground.phase }, { on := 2, ground := Ground.phase }, { on := 3, ground := Ground.phase }, { on := 4, ground := Ground.phase }, { on := 5, ground := Ground.phase }, { on := 6, ground := Ground.phase }, { on := 7, ground := Ground.phase }, { on := 8, ground := Ground.phase }, { on := 9, ground := Ground.phase }, { on := 10, ground := Ground.phase }], guard := none }) rfl (fun K hK => ?_) AllReadyH.nil
      go_simp
      rw [set4_eq, Hu2.out]
      refine hK.out _ _ ⟨P2.out.r1, P2.out.r2⟩ (fun hHeld2 => ?_)
      clear hK K hHeld yq0 yq1 yq2 yq3 yf0 yf1 yf2 yf3
      have hHeld := hHeld2
      clear hHeld2
      refine wpAnyH_done (by kernel_rfl) ?_ _
      refine NoPanic.normal ?_
      go_wp2_with fail
      go_meet
      exact ⟨v12.heap.size, w1.heap.size, rfl, rfl, by omega, by omega, by omega, P2.out.sub (by simp) (by simp)⟩
  refine AllReadyH.cons (o := { dst := some 3, op := Op.alloc 32, type := 0, pos := "bytes.go:33", after := #[], guard := none }) rfl (fun K hK => ?_) ?_
  ·have O17 : Hid (WW w [(wd.heap.size, zero4), (w.heap.size + 1, zero4)] [wd.heap.size, w.heap.size + 1] los his _) := hidden (by have k := OWH.out.room 32; simpa only [World.size_alloc] using k)
   go_simp
   refine hK.out _ _ ⟨O17.out.r1, O17.out.r2⟩ (fun hHeld2 => ?_)
   clear hK K hHeld
   have hHeld := hHeld2
   clear hHeld2
   generalize wd.alloc (.cells #[.int .u64 0, .int .u64 0, .int .u64 0, .int .u64 0] 32) = v17 at *
   have l17_0 : wd.heap.size < v17.heap.size := (O17.out.st.live (wd.heap.size, zero4) (by simp)).lt
   have l17_1 : w.heap.size + 1 < v17.heap.size := (O17.out.st.live (w.heap.size + 1, zero4) (by simp)).lt
   refine wpAnyH_ready (rs := [3, 9]) (by kernel_rfl) (by simp) ?_
   refine AllReadyH.cons (o := { dst := some 8, op := Op.call { callee := Callee.value (Operand.func 49), args := #[Operand.tmp 7], argTypes := #[128] }, type := 32, pos := "bytes.go:33", after := #[{ on := 2, ground := Ground.data }], guard := none }) rfl (fun K hK => ?_) ?_
   ·go_simp
    refine (rl.out _).mono ?_
    rintro e w18 ⟨rfl, hb18⟩
    have O18 := hidden (O17.out.keep hb18)
    have l18_0 : wd.heap.size < w18.heap.size := (O18.out.st.live (wd.heap.size, zero4) (by simp)).lt
    have l18_1 : w.heap.size + 1 < w18.heap.size := (O18.out.st.live (w.heap.size + 1, zero4) (by simp)).lt
    go_wp2_with fail
    refine hK.out _ _ ⟨O18.out.r1, O18.out.r2⟩ (fun hHeld2 => ?_)
    clear hK K hHeld
    have hHeld := hHeld2
    clear hHeld2
    refine wpAnyH_ready (rs := [7, 9]) (by kernel_rfl) (by simp) ?_
    refine AllReadyH.cons (o := { dst := some 12, op := Op.call { callee := Callee.value (Operand.func 49), args := #[Operand.tmp 11], argTypes := #[128] }, type := 32, pos := "bytes.go:33", after := #[{ on := 6, ground := Ground.data }, { on := 3, ground := Ground.chain }], guard := none }) rfl (fun K hK => ?_) ?_
    ·go_simp
     refine (rh.out _).mono ?_
     rintro e w19 ⟨rfl, hb19⟩
     have O19 := hidden (O18.out.keep hb19)
     have l19_0 : wd.heap.size < w19.heap.size := (O19.out.st.live (wd.heap.size, zero4) (by simp)).lt
     have l19_1 : w.heap.size + 1 < w19.heap.size := (O19.out.st.live (w.heap.size + 1, zero4) (by simp)).lt
     go_wp2_with fail
     refine hK.out _ _ ⟨O19.out.r1, O19.out.r2⟩ (fun hHeld2 => ?_)
     clear hK K hHeld
     have hHeld := hHeld2
     clear hHeld2
     refine wpAnyH_ready (rs := [9]) (by kernel_rfl) (by simp) ?_
     refine AllReadyH.cons (o := { dst := some 4, op := Op.alloc 32, type := 0, pos := "bytes.go:33", after := #[], guard := none }) rfl (fun K hK => ?_) AllReadyH.nil
     ·have O20 : Hid (WW w [(w19.heap.size, zero4), (wd.heap.size, zero4), (w.heap.size + 1, zero4)] [w19.heap.size, wd.heap.size, w.heap.size + 1] los his _) := hidden (by have k := O19.out.room 32; simpa only [World.size_alloc] using k)
      go_simp
      refine hK.out _ _ ⟨O20.out.r1, O20.out.r2⟩ (fun hHeld2 => ?_)
      clear hK K hHeld
      have hHeld := hHeld2
      clear hHeld2
      generalize w19.alloc (.cells #[.int .u64 0, .int .u64 0, .int .u64 0, .int .u64 0] 32) = v20 at *
      have l20_0 : w19.heap.size < v20.heap.size := (O20.out.st.live (w19.heap.size, zero4) (by simp)).lt
      have l20_1 : wd.heap.size < v20.heap.size := (O20.out.st.live (wd.heap.size, zero4) (by simp)).lt
      have l20_2 : w.heap.size + 1 < v20.heap.size := (O20.out.st.live (w.heap.size + 1, zero4) (by simp)).lt
      have xq0 := (O20.out.st.live (wd.heap.size, zero4) (by simp)).c0
      have xq1 := (O20.out.st.live (wd.heap.size, zero4) (by simp)).c1
      have xq2 := (O20.out.st.live (wd.heap.size, zero4) (by simp)).c2
      have xq3 := (O20.out.st.live (wd.heap.size, zero4) (by simp)).c3
      have xf0 := (O20.out.st.wrt (wd.heap.size) (by simp)).1.f0
      have xf1 := (O20.out.st.wrt (wd.heap.size) (by simp)).1.f1
      have xf2 := (O20.out.st.wrt (wd.heap.size) (by simp)).1.f2
      have xf3 := (O20.out.st.wrt (wd.heap.size) (by simp)).1.f3
      have P1 := O20.out.set (b := wd.heap.size) (M := [(w19.heap.size, zero4), (w.heap.size + 1, zero4)]) lo (old := zero4) (by simp) (by omega) (by simp; omega)
      generalize hu1 : set4 v20 (wd.heap.size) lo = u1 at P1
      replace P1 := hidden P1
      have Hu1 := hidden hu1
      clear hu1
      refine wpAnyH_ready (rs := [10]) (by kernel_rfl) (by simp) ?_
      refine AllReadyH.cons (o := { dst := none, op := Op.store 32 (Operand.tmp 3) (Operand.tmp 8), type := 0, pos := "bytes.go:33", after := #[{ on := 8, ground := Ground.data }, { on := 3, ground := Ground.data }, { on := 7, ground := Ground.chain }, { on := 0, ground := Ground.phase }, { on := 1, ground := Ground.phase }, { on := 2, ground := Ground.phase }, { on := 3, ground := Ground.phase }, { on := 4, ground := Ground.textOnly Departure.lateStoresUnsure }, { on := 5, ground := Ground.textOnly Departure.lateStores }, { on := 6, ground := Ground.textOnly Departure.lateStores }, { on := 7, ground := Ground.textOnly Departure.lateStoresUnsure }, { on := 8, ground := Ground.phase }, { on := 9, ground := Ground.phase }], guard := none }) rfl (fun K hK => ?_) AllReadyH.nil
      go_simp
      rw [set4_eq, Hu1.out]
      refine hK.out _ _ ⟨P1.out.r1, P1.out.r2⟩ (fun hHeld2 => ?_)
      clear hK K hHeld xq0 xq1 xq2 xq3 xf0 xf1 xf2 xf3
      have hHeld := hHeld2
      clear hHeld2
      have yq0 := (P1.out.st.live (w19.heap.size, zero4) (by simp)).c0
      have yq1 := (P1.out.st.live (w19.heap.size, zero4) (by simp)).c1
      have yq2 := (P1.out.st.live (w19.heap.size, zero4) (by simp)).c2
      have yq3 := (P1.out.st.live (w19.heap.size, zero4) (by simp)).c3
      have yf0 := (P1.out.st.wrt (w19.heap.size) (by simp)).1.f0
      have yf1 := (P1.out.st.wrt (w19.heap.size) (by simp)).1.f1
      have yf2 := (P1.out.st.wrt (w19.heap.size) (by simp)).1.f2
      have yf3 := (P1.out.st.wrt (w19.heap.size) (by simp)).1.f3
      have P2 := P1.out.set (b := w19.heap.size) (M := [(wd.heap.size, lo), (w.heap.size + 1, zero4)]) hi (old := zero4) (by simp) (by omega) (by simp; omega)
      generalize hu2 : set4 u1 (w19.heap.size) hi = u2 at P2
      replace P2 := hidden P2
      have Hu2 := hidden hu2
      clear hu2
      refine wpAnyH_ready (rs := [11]) (by kernel_rfl) (by simp) ?_
      refine AllReadyH.cons (o := { dst := none, op := Op.store 32 (Operand.tmp 4) (Operand.tmp 12), type := 0, pos := "bytes.go:33", after := #[{ on := 9, ground := Ground.data }, { on := 7, ground := Ground.data }, { on := 10, ground := Ground.chain }, { on := 0, ground := Ground.phase }, { on := 1, ground := Ground.phase }, { on := 2, ground := Ground.phase }, { on := 3, ground := Ground.phase }, { on := 4, ground := Ground.phase }, { on := 5, ground := Ground.phase }, { on := 6, ground := Ground.phase }, { on := 7, ground := Ground.phase }, { on := 8, ground := Ground.phase }, { on := 9, ground := Ground.phase }, { on := 10, ground := Ground.phase }], guard := none }) rfl (fun K hK => ?_) AllReadyH.nil
      go_simp
      rw [set4_eq, Hu2.out]
      refine hK.out _ _ ⟨P2.out.r1, P2.out.r2⟩ (fun hHeld2 => ?_)
      clear hK K hHeld yq0 yq1 yq2 yq3 yf0 yf1 yf2 yf3
      have hHeld := hHeld2
      clear hHeld2
      refine wpAnyH_done (by kernel_rfl) ?_ _
      refine NoPanic.normal ?_
      go_wp2_with fail
      go_meet
      exact ⟨wd.heap.size, w19.heap.size, rfl, rfl, by omega, by omega, by omega, P2.out.sub (by simp) (by simp)⟩
    refine AllReadyH.cons (o := { dst := some 4, op := Op.alloc 32, type := 0, pos := "bytes.go:33", after := #[], guard := none }) rfl (fun K hK => ?_) AllReadyH.nil
    ·have O21 : Hid (WW w [(w18.heap.size, zero4), (wd.heap.size, zero4), (w.heap.size + 1, zero4)] [w18.heap.size, wd.heap.size, w.heap.size + 1] los his _) := hidden (by have k := O18.out.room 32; simpa only [World.size_alloc] using k)
     go_simp
     refine hK.out _ _ ⟨O21.out.r1, O21.out.r2⟩ (fun hHeld2 => ?_)
     clear hK K hHeld
     have hHeld := hHeld2
     clear hHeld2
     generalize w18.alloc (.cells #[.int .u64 0, .int .u64 0, .int .u64 0, .int .u64 0] 32) = v21 at *
     have l21_0 : w18.heap.size < v21.heap.size := (O21.out.st.live (w18.heap.size, zero4) (by simp)).lt
     have l21_1 : wd.heap.size < v21.heap.size := (O21.out.st.live (wd.heap.size, zero4) (by simp)).lt
     have l21_2 : w.heap.size + 1 < v21.heap.size := (O21.out.st.live (w.heap.size + 1, zero4) (by simp)).lt
     refine wpAnyH_ready (rs := [7]) (by kernel_rfl) (by simp) ?_
     refine AllReadyH.cons (o := { dst := some 12, op := Op.call { callee := Callee.value (Operand.func 49), args := #[Operand.tmp 11], argTypes := #[128] }, type := 32, pos := "bytes.go:33", after := #[{ on := 6, ground := Ground.data }, { on := 3, ground := Ground.chain }], guard := none }) rfl (fun K hK => ?_) AllReadyH.nil
     ·go_simp
      refine (rh.out _).mono ?_
      rintro e w22 ⟨rfl, hb22⟩
      have O22 := hidden (O21.out.keep hb22)
      have l22_0 : w18.heap.size < w22.heap.size := (O22.out.st.live (w18.heap.size, zero4) (by simp)).lt
      have l22_1 : wd.heap.size < w22.heap.size := (O22.out.st.live (wd.heap.size, zero4) (by simp)).lt
      have l22_2 : w.heap.size + 1 < w22.heap.size := (O22.out.st.live (w.heap.size + 1, zero4) (by simp)).lt
      go_wp2_with fail
      refine hK.out _ _ ⟨O22.out.r1, O22.out.r2⟩ (fun hHeld2 => ?_)
      clear hK K hHeld
      have hHeld := hHeld2
      clear hHeld2
      have xq0 := (O22.out.st.live (wd.heap.size, zero4) (by simp)).c0
      have xq1 := (O22.out.st.live (wd.heap.size, zero4) (by simp)).c1
      have xq2 := (O22.out.st.live (wd.heap.size, zero4) (by simp)).c2
      have xq3 := (O22.out.st.live (wd.heap.size, zero4) (by simp)).c3
      have xf0 := (O22.out.st.wrt (wd.heap.size) (by simp)).1.f0
      have xf1 := (O22.out.st.wrt (wd.heap.size) (by simp)).1.f1
      have xf2 := (O22.out.st.wrt (wd.heap.size) (by simp)).1.f2
      have xf3 := (O22.out.st.wrt (wd.heap.size) (by simp)).1.f3
      have P1 := O22.out.set (b := wd.heap.size) (M := [(w18.heap.size, zero4), (w.heap.size + 1, zero4)]) lo (old := zero4) (by simp) (by omega) (by simp; omega)
      generalize hu1 : set4 w22 (wd.heap.size) lo = u1 at P1
      replace P1 := hidden P1
      have Hu1 := hidden hu1
      clear hu1
      refine wpAnyH_ready (rs := [10]) (by kernel_rfl) (by simp) ?_
      refine AllReadyH.cons (o := { dst := none, op := Op.store 32 (Operand.tmp 3) (Operand.tmp 8), type := 0, pos := "bytes.go:33", after := #[{ on := 8, ground := Ground.data }, { on := 3, ground := Ground.data }, { on := 7, ground := Ground.chain }, { on := 0, ground := Ground.phase }, { on := 1, ground := Ground.phase }, { on := 2, ground := Ground.phase }, { on := 3, ground := Ground.phase }, { on := 4, ground := Ground.textOnly Departure.lateStoresUnsure }, { on := 5, ground := Ground.textOnly Departure.lateStores }, { on := 6, ground := Ground.textOnly Departure.lateStores }, { on := 7, ground := Ground.textOnly Departure.lateStoresUnsure }, { on := 8, ground := Ground.phase }, { on := 9, ground := Ground.phase }], guard := none }) rfl (fun K hK => ?_) AllReadyH.nil
      go_simp
      rw [set4_eq, Hu1.out]
      refine hK.out _ _ ⟨P1.out.r1, P1.out.r2⟩ (fun hHeld2 => ?_)
      clear hK K hHeld xq0 xq1 xq2 xq3 xf0 xf1 xf2 xf3
      have hHeld := hHeld2
      clear hHeld2
      have yq0 := (P1.out.st.live (w18.heap.size, zero4) (by simp)).c0
      have yq1 := (P1.out.st.live (w18.heap.size, zero4) (by simp)).c1
      have yq2 := (P1.out.st.live (w18.heap.size, zero4) (by simp)).c2
      have yq3 := (P1.out.st.live (w18.heap.size, zero4) (by simp)).c3
      have yf0 := (P1.out.st.wrt (w18.heap.size) (by simp)).1.f0
      have yf1 := (P1.out.st.wrt (w18.heap.size) (by simp)).1.f1
      have yf2 := (P1.out.st.wrt (w18.heap.size) (by simp)).1.f2
      have yf3 := (P1.out.st.wrt (w18.heap.size) (by simp)).1.f3
      have P2 := P1.out.set (b := w18.heap.size) (M := [(wd.heap.size, lo), (w.heap.size + 1, zero4)]) hi (old := zero4) (by simp) (by omega) (by simp; omega)
      generalize hu2 : set4 u1 (w18.heap.size) hi = u2 at P2
      replace P2 := hidden P2
      have Hu2 := hidden hu2
      clear hu2
      refine wpAnyH_ready (rs := [11]) (by kernel_rfl) (by simp) ?_
      refine AllReadyH.cons (o := { dst := none, op := Op.store 32 (Operand.tmp 4) (Operand.tmp 12), type := 0, pos := "bytes.go:33", after := #[{ on := 9, ground := Ground.data }, { on := 7, ground := Ground.data }, { on := 10, ground := Ground.chain }, { on := 0, ground := Ground.phase }, { on := 1, ground := Ground.phase }, { on := 2, ground := Ground.phase }, { on := 3, ground := Ground.phase }, { on := 4, ground := Ground.phase }, { on := 5, ground := Ground.phase }, { on := 6, ground := Ground.phase }, { on := 7, ground := Ground.phase }, { on := 8, ground := Ground.phase }, { on := 9, ground := Ground.phase }, { on := 10, ground := Ground.phase }], guard := none }) rfl (fun K hK => ?_) AllReadyH.nil
      go_simp
      rw [set4_eq, Hu2.out]
      refine hK.out _ _ ⟨P2.out.r1, P2.out.r2⟩ (fun hHeld2 => ?_)
      clear hK K hHeld yq0 yq1 yq2 yq3 yf0 yf1 yf2 yf3
      have hHeld := hHeld2
      clear hHeld2
      refine wpAnyH_done (by kernel_rfl) ?_ _
      refine NoPanic.normal ?_
      go_wp2_with fail
      go_meet
      exact ⟨wd.heap.size, w18.heap.size, rfl, rfl, by omega, by omega, by omega, P2.out.sub (by simp) (by simp)⟩
   refine AllReadyH.cons (o := { dst := some 4, op := Op.alloc 32, type := 0, pos := "bytes.go:33", after := #[], guard := none }) rfl (fun K hK => ?_) AllReadyH.nil
   ·have O23 : Hid (WW w [(v17.heap.size, zero4), (wd.heap.size, zero4), (w.heap.size + 1, zero4)] [v17.heap.size, wd.heap.size, w.heap.size + 1] los his _) := hidden (by have k := O17.out.room 32; simpa only [World.size_alloc] using k)
    go_simp
    refine hK.out _ _ ⟨O23.out.r1, O23.out.r2⟩ (fun hHeld2 => ?_)
    clear hK K hHeld
    have hHeld := hHeld2
    clear hHeld2
    generalize v17.alloc (.cells #[.int .u64 0, .int .u64 0, .int .u64 0, .int .u64 0] 32) = v23 at *
    have l23_0 : v17.heap.size < v23.heap.size := (O23.out.st.live (v17.heap.size, zero4) (by simp)).lt
    have l23_1 : wd.heap.size < v23.heap.size := (O23.out.st.live (wd.heap.size, zero4) (by simp)).lt
    have l23_2 : w.heap.size + 1 < v23.heap.size := (O23.out.st.live (w.heap.size + 1, zero4) (by simp)).lt
    refine wpAnyH_ready (rs := [3]) (by kernel_rfl) (by simp) ?_
    refine AllReadyH.cons (o := { dst := some 8, op := Op.call { callee := Callee.value (Operand.func 49), args := #[Operand.tmp 7], argTypes := #[128] }, type := 32, pos := "bytes.go:33", after := #[{ on := 2, ground := Ground.data }], guard := none }) rfl (fun K hK => ?_) AllReadyH.nil
    ·go_simp
     refine (rl.out _).mono ?_
     rintro e w24 ⟨rfl, hb24⟩
     have O24 := hidden (O23.out.keep hb24)
     have l24_0 : v17.heap.size < w24.heap.size := (O24.out.st.live (v17.heap.size, zero4) (by simp)).lt
     have l24_1 : wd.heap.size < w24.heap.size := (O24.out.st.live (wd.heap.size, zero4) (by simp)).lt
     have l24_2 : w.heap.size + 1 < w24.heap.size := (O24.out.st.live (w.heap.size + 1, zero4) (by simp)).lt
     go_wp2_with fail
     refine hK.out _ _ ⟨O24.out.r1, O24.out.r2⟩ (fun hHeld2 => ?_)
     clear hK K hHeld
     have hHeld := hHeld2
     clear hHeld2
     refine wpAnyH_ready (rs := [7]) (by kernel_rfl) (by simp) ?_
     refine AllReadyH.cons (o := { dst := some 12, op := Op.call { callee := Callee.value (Operand.func 49), args := #[Operand.tmp 11], argTypes := #[128] }, type := 32, pos := "bytes.go:33", after := #[{ on := 6, ground := Ground.data }, { on := 3, ground := Ground.chain }], guard := none }) rfl (fun K hK => ?_) AllReadyH.nil
     ·go_simp
      refine (rh.out _).mono ?_
      rintro e w25 ⟨rfl, hb25⟩
      have O25 := hidden (O24.out.keep hb25)
      have l25_0 : v17.heap.size < w25.heap.size := (O25.out.st.live (v17.heap.size, zero4) (by simp)).lt
      have l25_1 : wd.heap.size < w25.heap.size := (O25.out.st.live (wd.heap.size, zero4) (by simp)).lt
      have l25_2 : w.heap.size + 1 < w25.heap.size := (O25.out.st.live (w.heap.size + 1, zero4) (by simp)).lt
      go_wp2_with fail
      refine hK.out _ _ ⟨O25.out.r1, O25.out.r2⟩ (fun hHeld2 => ?_)
      clear hK K hHeld
      have hHeld := hHeld2
      clear hHeld2
      have xq0 := (O25.out.st.live (wd.heap.size, zero4) (by simp)).c0
      have xq1 := (O25.out.st.live (wd.heap.size, zero4) (by simp)).c1
      have xq2 := (O25.out.st.live (wd.heap.size, zero4) (by simp)).c2
      have xq3 := (O25.out.st.live (wd.heap.size, zero4) (by simp)).c3
      have xf0 := (O25.out.st.wrt (wd.heap.size) (by simp)).1.f0
      have xf1 := (O25.out.st.wrt (wd.heap.size) (by simp)).1.f1
      have xf2 := (O25.out.st.wrt (wd.heap.size) (by simp)).1.f2
      have xf3 := (O25.out.st.wrt (wd.heap.size) (by simp)).1.f3
      have P1 := O25.out.set (b := wd.heap.size) (M := [(v17.heap.size, zero4), (w.heap.size + 1, zero4)]) lo (old := zero4) (by simp) (by omega) (by simp; omega)
      generalize hu1 : set4 w25 (wd.heap.size) lo = u1 at P1
      replace P1 := hidden P1
      have Hu1 := hidden hu1
      clear hu1
      refine wpAnyH_ready (rs := [10]) (by kernel_rfl) (by simp) ?_
      refine AllReadyH.cons (o := { dst := none, op := Op.store 32 (Operand.tmp 3) (Operand.tmp 8), type := 0, pos := "bytes.go:33", after := #[{ on := 8, ground := Ground.data }, { on := 3, ground := Ground.data }, { on := 7, ground := Ground.chain }, { on := 0, ground := Ground.phase }, { on := 1, ground := Ground.phase }, { on := 2, ground := Ground.phase }, { on := 3, ground := Ground.phase }, { on := 4, ground := Ground.textOnly Departure.lateStoresUnsure }, { on := 5, ground := Ground.textOnly Departure.lateStores }, { on := 6, ground := Ground.textOnly Departure.lateStores }, { on := 7, ground := Ground.textOnly Departure.lateStoresUnsure }, { on := 8, ground := Ground.phase }, { on := 9, ground := Ground.phase }], guard := none }) rfl (fun K hK => ?_) AllReadyH.nil
      go_simp
      rw [set4_eq, Hu1.out]
      refine hK.out _ _ ⟨P1.out.r1, P1.out.r2⟩ (fun hHeld2 => ?_)
      clear hK K hHeld xq0 xq1 xq2 xq3 xf0 xf1 xf2 xf3
      have hHeld := hHeld2
      clear hHeld2
      have yq0 := (P1.out.st.live (v17.heap.size, zero4) (by simp)).c0
      have yq1 := (P1.out.st.live (v17.heap.size, zero4) (by simp)).c1
      have yq2 := (P1.out.st.live (v17.heap.size, zero4) (by simp)).c2
      have yq3 := (P1.out.st.live (v17.heap.size, zero4) (by simp)).c3
      have yf0 := (P1.out.st.wrt (v17.heap.size) (by simp)).1.f0
      have yf1 := (P1.out.st.wrt (v17.heap.size) (by simp)).1.f1
      have yf2 := (P1.out.st.wrt (v17.heap.size) (by simp)).1.f2
      have yf3 := (P1.out.st.wrt (v17.heap.size) (by simp)).1.f3
      have P2 := P1.out.set (b := v17.heap.size) (M := [(wd.heap.size, lo), (w.heap.size + 1, zero4)]) hi (old := zero4) (by simp) (by omega) (by simp; omega)
      generalize hu2 : set4 u1 (v17.heap.size) hi = u2 at P2
      replace P2 := hidden P2
      have Hu2 := hidden hu2
      clear hu2
      refine wpAnyH_ready (rs := [11]) (by kernel_rfl) (by simp) ?_
      refine AllReadyH.cons (o := { dst := none, op := Op.store 32 (Operand.tmp 4) (Operand.tmp 12), type := 0, pos := "bytes.go:33", after := #[{ on := 9, ground := Ground.data }, { on := 7, ground := Ground.data }, { on := 10, ground := Ground.chain }, { on := 0, ground := Ground.phase }, { on := 1, ground := Ground.phase }, { on := 2, ground := Ground.phase }, { on := 3, ground := Ground.phase }, { on := 4, ground := Ground.phase }, { on := 5, ground := Ground.phase }, { on := 6, ground := Ground.phase }, { on := 7, ground := Ground.phase }, { on := 8, ground := Ground.phase }, { on := 9, ground := Ground.phase }, { on := 10, ground := Ground.phase }], guard := none }) rfl (fun K hK => ?_) AllReadyH.nil
      go_simp
      rw [set4_eq, Hu2.out]
      refine hK.out _ _ ⟨P2.out.r1, P2.out.r2⟩ (fun hHeld2 => ?_)
      clear hK K hHeld yq0 yq1 yq2 yq3 yf0 yf1 yf2 yf3
      have hHeld := hHeld2
      clear hHeld2
      refine wpAnyH_done (by kernel_rfl) ?_ _
      refine NoPanic.normal ?_
      go_wp2_with fail
      go_meet
      exact ⟨wd.heap.size, v17.heap.size, rfl, rfl, by omega, by omega, by omega, P2.out.sub (by simp) (by simp)⟩
  refine AllReadyH.cons (o := { dst := some 4, op := Op.alloc 32, type := 0, pos := "bytes.go:33", after := #[], guard := none }) rfl (fun K hK => ?_) AllReadyH.nil
  ·have O26 : Hid (WW w [(wd.heap.size, zero4), (w.heap.size + 1, zero4)] [wd.heap.size, w.heap.size + 1] los his _) := hidden (by have k := OWH.out.room 32; simpa only [World.size_alloc] using k)
   go_simp
   refine hK.out _ _ ⟨O26.out.r1, O26.out.r2⟩ (fun hHeld2 => ?_)
   clear hK K hHeld
   have hHeld := hHeld2
   clear hHeld2
   generalize wd.alloc (.cells #[.int .u64 0, .int .u64 0, .int .u64 0, .int .u64 0] 32) = v26 at *
   have l26_0 : wd.heap.size < v26.heap.size := (O26.out.st.live (wd.heap.size, zero4) (by simp)).lt
   have l26_1 : w.heap.size + 1 < v26.heap.size := (O26.out.st.live (w.heap.size + 1, zero4) (by simp)).lt
   refine wpAnyH_ready (rs := [3, 8]) (by kernel_rfl) (by simp) ?_
   refine AllReadyH.cons (o := { dst := some 8, op := Op.call { callee := Callee.value (Operand.func 49), args := #[Operand.tmp 7], argTypes := #[128] }, type := 32, pos := "bytes.go:33", after := #[{ on := 2, ground := Ground.data }], guard := none }) rfl (fun K hK => ?_) ?_
   ·go_simp
    refine (rl.out _).mono ?_
    rintro e w27 ⟨rfl, hb27⟩
    have O27 := hidden (O26.out.keep hb27)
    have l27_0 : wd.heap.size < w27.heap.size := (O27.out.st.live (wd.heap.size, zero4) (by simp)).lt
    have l27_1 : w.heap.size + 1 < w27.heap.size := (O27.out.st.live (w.heap.size + 1, zero4) (by simp)).lt
    go_wp2_with fail
    refine hK.out _ _ ⟨O27.out.r1, O27.out.r2⟩ (fun hHeld2 => ?_)
    clear hK K hHeld
    have hHeld := hHeld2
    clear hHeld2
    refine wpAnyH_ready (rs := [7, 8]) (by kernel_rfl) (by simp) ?_
    refine AllReadyH.cons (o := { dst := some 12, op := Op.call { callee := Callee.value (Operand.func 49), args := #[Operand.tmp 11], argTypes := #[128] }, type := 32, pos := "bytes.go:33", after := #[{ on := 6, ground := Ground.data }, { on := 3, ground := Ground.chain }], guard := none }) rfl (fun K hK => ?_) ?_
    ·go_simp
     refine (rh.out _).mono ?_
     rintro e w28 ⟨rfl, hb28⟩
     have O28 := hidden (O27.out.keep hb28)
     have l28_0 : wd.heap.size < w28.heap.size := (O28.out.st.live (wd.heap.size, zero4) (by simp)).lt
     have l28_1 : w.heap.size + 1 < w28.heap.size := (O28.out.st.live (w.heap.size + 1, zero4) (by simp)).lt
     go_wp2_with fail
     refine hK.out _ _ ⟨O28.out.r1, O28.out.r2⟩ (fun hHeld2 => ?_)
     clear hK K hHeld
     have hHeld := hHeld2
     clear hHeld2
     refine wpAnyH_ready (rs := [8]) (by kernel_rfl) (by simp) ?_
     refine AllReadyH.cons (o := { dst := some 3, op := Op.alloc 32, type := 0, pos := "bytes.go:33", after := #[], guard := none }) rfl (fun K hK => ?_) AllReadyH.nil
     ·have O29 : Hid (WW w [(w28.heap.size, zero4), (wd.heap.size, zero4), (w.heap.size + 1, zero4)] [w28.heap.size, wd.heap.size, w.heap.size + 1] los his _) := hidden (by have k := O28.out.room 32; simpa only [World.size_alloc] using k)
      go_simp
      refine hK.out _ _ ⟨O29.out.r1, O29.out.r2⟩ (fun hHeld2 => ?_)
      clear hK K hHeld
      have hHeld := hHeld2
      clear hHeld2
      generalize w28.alloc (.cells #[.int .u64 0, .int .u64 0, .int .u64 0, .int .u64 0] 32) = v29 at *
      have l29_0 : w28.heap.size < v29.heap.size := (O29.out.st.live (w28.heap.size, zero4) (by simp)).lt
      have l29_1 : wd.heap.size < v29.heap.size := (O29.out.st.live (wd.heap.size, zero4) (by simp)).lt
      have l29_2 : w.heap.size + 1 < v29.heap.size := (O29.out.st.live (w.heap.size + 1, zero4) (by simp)).lt
      have xq0 := (O29.out.st.live (w28.heap.size, zero4) (by simp)).c0
      have xq1 := (O29.out.st.live (w28.heap.size, zero4) (by simp)).c1
      have xq2 := (O29.out.st.live (w28.heap.size, zero4) (by simp)).c2
      have xq3 := (O29.out.st.live (w28.heap.size, zero4) (by simp)).c3
      have xf0 := (O29.out.st.wrt (w28.heap.size) (by simp)).1.f0
      have xf1 := (O29.out.st.wrt (w28.heap.size) (by simp)).1.f1
      have xf2 := (O29.out.st.wrt (w28.heap.size) (by simp)).1.f2
      have xf3 := (O29.out.st.wrt (w28.heap.size) (by simp)).1.f3
      have P1 := O29.out.set (b := w28.heap.size) (M := [(wd.heap.size, zero4), (w.heap.size + 1, zero4)]) lo (old := zero4) (by simp) (by omega) (by simp; omega)
      generalize hu1 : set4 v29 (w28.heap.size) lo = u1 at P1
      replace P1 := hidden P1
      have Hu1 := hidden hu1
      clear hu1
      refine wpAnyH_ready (rs := [10]) (by kernel_rfl) (by simp) ?_
      refine AllReadyH.cons (o := { dst := none, op := Op.store 32 (Operand.tmp 3) (Operand.tmp 8), type := 0, pos := "bytes.go:33", after := #[{ on := 8, ground := Ground.data }, { on := 3, ground := Ground.data }, { on := 7, ground := Ground.chain }, { on := 0, ground := Ground.phase }, { on := 1, ground := Ground.phase }, { on := 2, ground := Ground.phase }, { on := 3, ground := Ground.phase }, { on := 4, ground := Ground.textOnly Departure.lateStoresUnsure }, { on := 5, ground := Ground.textOnly Departure.lateStores }, { on := 6, ground := Ground.textOnly Departure.lateStores }, { on := 7, ground := Ground.textOnly Departure.lateStoresUnsure }, { on := 8, ground := Ground.phase }, { on := 9, ground := Ground.phase }], guard := none }) rfl (fun K hK => ?_) AllReadyH.nil
      go_simp
      rw [set4_eq, Hu1.out]
      refine hK.out _ _ ⟨P1.out.r1, P1.out.r2⟩ (fun hHeld2 => ?_)
      clear hK K hHeld xq0 xq1 xq2 xq3 xf0 xf1 xf2 xf3
      have hHeld := hHeld2
      clear hHeld2
      have yq0 := (P1.out.st.live (wd.heap.size, zero4) (by simp)).c0
      have yq1 := (P1.out.st.live (wd.heap.size, zero4) (by simp)).c1
      have yq2 := (P1.out.st.live (wd.heap.size, zero4) (by simp)).c2
      have yq3 := (P1.out.st.live (wd.heap.size, zero4) (by simp)).c3
      have yf0 := (P1.out.st.wrt (wd.heap.size) (by simp)).1.f0
      have yf1 := (P1.out.st.wrt (wd.heap.size) (by simp)).1.f1
      have yf2 := (P1.out.st.wrt (wd.heap.size) (by simp)).1.f2
      have yf3 := (P1.out.st.wrt (wd.heap.size) (by simp)).1.f3
      have P2 := P1.out.set (b := wd.heap.size) (M := [(w28.heap.size, lo), (w.heap.size + 1, zero4)]) hi (old := zero4) (by simp) (by omega) (by simp; omega)
      generalize hu2 : set4 u1 (wd.heap.size) hi = u2 at P2
      replace P2 := hidden P2
      have Hu2 := hidden hu2
      clear hu2
      refine wpAnyH_ready (rs := [11]) (by kernel_rfl) (by simp) ?_
      refine AllReadyH.cons (o := { dst := none, op := Op.store 32 (Operand.tmp 4) (Operand.tmp 12), type := 0, pos := "bytes.go:33", after := #[{ on := 9, ground := Ground.data }, { on := 7, ground := Ground.data }, { on := 10, ground := Ground.chain }, { on := 0, ground := Ground.phase }, { on := 1, ground := Ground.phase }, { on := 2, ground := Ground.phase }, { on := 3, ground := Ground.phase }, { on := 4, ground := Ground.phase }, { on := 5, ground := Ground.phase }, { on := 6, ground := Ground.phase }, { on := 7, ground := Ground.phase }, { on := 8, ground := Ground.phase }, { on := 9, ground := Ground.phase }, { on := 10, ground := Ground.phase }], guard := none }) rfl (fun K hK => ?_) AllReadyH.nil
      go_simp
      rw [set4_eq, Hu2.out]
      refine hK.out _ _ ⟨P2.out.r1, P2.out.r2⟩ (fun hHeld2 => ?_)
      clear hK K hHeld yq0 yq1 yq2 yq3 yf0 yf1 yf2 yf3
      have hHeld := hHeld2
      clear hHeld2
      refine wpAnyH_done (by kernel_rfl) ?_ _
      refine NoPanic.normal ?_
      go_wp2_with fail
      go_meet
      exact ⟨w28.heap.size, wd.heap.size, rfl, rfl, by omega, by omega, by omega, P2.out.sub (by simp) (by simp)⟩
    refine AllReadyH.cons (o := { dst := some 3, op := Op.alloc 32, type := 0, pos := "bytes.go:33", after := #[], guard := none }) rfl (fun K hK => ?_) AllReadyH.nil
    ·have O30 : Hid (WW w [(w27.heap.size, zero4), (wd.heap.size, zero4), (w.heap.size + 1, zero4)] [w27.heap.size, wd.heap.size, w.heap.size + 1] los his _) := hidden (by have k := O27.out.room 32; simpa only [World.size_alloc] using k)
     go_simp
     refine hK.out _ _ ⟨O30.out.r1, O30.out.r2⟩ (fun hHeld2 => ?_)
     clear hK K hHeld
     have hHeld := hHeld2
     clear hHeld2
     generalize w27.alloc (.cells #[.int .u64 0, .int .u64 0, .int .u64 0, .int .u64 0] 32) = v30 at *
     have l30_0 : w27.heap.size < v30.heap.size := (O30.out.st.live (w27.heap.size, zero4) (by simp)).lt
     have l30_1 : wd.heap.size < v30.heap.size := (O30.out.st.live (wd.heap.size, zero4) (by simp)).lt
     have l30_2 : w.heap.size + 1 < v30.heap.size := (O30.out.st.live (w.heap.size + 1, zero4) (by simp)).lt
     refine wpAnyH_ready (rs := [7]) (by kernel_rfl) (by simp) ?_
     refine AllReadyH.cons (o := { dst := some 12, op := Op.call { callee := Callee.value (Operand.func 49), args := #[Operand.tmp 11], argTypes := #[128] }, type := 32, pos := "bytes.go:33", after := #[{ on := 6, ground := Ground.data }, { on := 3, ground := Ground.chain }], guard := none }) rfl (fun K hK => ?_) AllReadyH.nil
     ·go_simp
      refine (rh.out _).mono ?_
      rintro e w31 ⟨rfl, hb31⟩
      have O31 := hidden (O30.out.keep hb31)
      have l31_0 : w27.heap.size < w31.heap.size := (O31.out.st.live (w27.heap.size, zero4) (by simp)).lt
      have l31_1 : wd.heap.size < w31.heap.size := (O31.out.st.live (wd.heap.size, zero4) (by simp)).lt
      have l31_2 : w.heap.size + 1 < w31.heap.size := (O31.out.st.live (w.heap.size + 1, zero4) (by simp)).lt
      go_wp2_with fail
      refine hK.out _ _ ⟨O31.out.r1, O31.out.r2⟩ (fun hHeld2 => ?_)
      clear hK K hHeld
      have hHeld := hHeld2
      clear hHeld2
      have xq0 := (O31.out.st.live (w27.heap.size, zero4) (by simp)).c0
      have xq1 := (O31.out.st.live (w27.heap.size, zero4) (by simp)).c1
      have xq2 := (O31.out.st.live (w27.heap.size, zero4) (by simp)).c2
      have xq3 := (O31.out.st.live (w27.heap.size, zero4) (by simp)).c3
      have xf0 := (O31.out.st.wrt (w27.heap.size) (by simp)).1.f0
      have xf1 := (O31.out.st.wrt (w27.heap.size) (by simp)).1.f1
      have xf2 := (O31.out.st.wrt (w27.heap.size) (by simp)).1.f2
      have xf3 := (O31.out.st.wrt (w27.heap.size) (by simp)).1.f3
      have P1 := O31.out.set (b := w27.heap.size) (M := [(wd.heap.size, zero4), (w.heap.size + 1, zero4)]) lo (old := zero4) (by simp) (by omega) (by simp; omega)
      generalize hu1 : set4 w31 (w27.heap.size) lo = u1 at P1
      replace P1 := hidden P1
      have Hu1 := hidden hu1
      clear hu1
      refine wpAnyH_ready (rs := [10]) (by kernel_rfl) (by simp) ?_
      refine AllReadyH.cons (o := { dst := none, op := Op.store 32 (Operand.tmp 3) (Operand.tmp 8), type := 0, pos := "bytes.go:33", after := #[{ on := 8, ground := Ground.data }, { on := 3, ground := Ground.data }, { on := 7, ground := Ground.chain }, { on := 0, ground := Ground.phase }, { on := 1, ground := Ground.phase }, { on := 2, ground := Ground.phase }, { on := 3, ground := Ground.phase }, { on := 4, ground := Ground.textOnly Departure.lateStoresUnsure }, { on := 5, ground := Ground.textOnly Departure.lateStores }, { on := 6, ground := Ground.textOnly Departure.lateStores }, { on := 7, ground := Ground.textOnly Departure.lateStoresUnsure }, { on := 8, ground := Ground.phase }, { on := 9, ground := Ground.phase }], guard := none }) rfl (fun K hK => ?_) AllReadyH.nil
      go_simp
      rw [set4_eq, Hu1.out]
      refine hK.out _ _ ⟨P1.out.r1, P1.out.r2⟩ (fun hHeld2 => ?_)
      clear hK K hHeld xq0 xq1 xq2 xq3 xf0 xf1 xf2 xf3
      have hHeld := hHeld2
      clear hHeld2
      have yq0 := (P1.out.st.live (wd.heap.size, zero4) (by simp)).c0
      have yq1 := (P1.out.st.live (wd.heap.size, zero4) (by simp)).c1
      have yq2 := (P1.out.st.live (wd.heap.size, zero4) (by simp)).c2
      have yq3 := (P1.out.st.live (wd.heap.size, zero4) (by simp)).c3
      have yf0 := (P1.out.st.wrt (wd.heap.size) (by simp)).1.f0
      have yf1 := (P1.out.st.wrt (wd.heap.size) (by simp)).1.f1
      have yf2 := (P1.out.st.wrt (wd.heap.size) (by simp)).1.f2
      have yf3 := (P1.out.st.wrt (wd.heap.size) (by simp)).1.f3
      have P2 := P1.out.set (b := wd.heap.size) (M := [(w27.heap.size, lo), (w.heap.size + 1, zero4)]) hi (old := zero4) (by simp) (by omega) (by simp; omega)
      generalize hu2 : set4 u1 (wd.heap.size) hi = u2 at P2
      replace P2 := hidden P2
      have Hu2 := hidden hu2
      clear hu2
      refine wpAnyH_ready (rs := [11]) (by kernel_rfl) (by simp) ?_
      refine AllReadyH.cons (o := { dst := none, op := Op.store 32 (Operand.tmp 4) (Operand.tmp 12), type := 0, pos := "bytes.go:33", after := #[{ on := 9, ground := Ground.data }, { on := 7, ground := Ground.data }, { on := 10, ground := Ground.chain }, { on := 0, ground := Ground.phase }, { on := 1, ground := Ground.phase }, { on := 2, ground := Ground.phase }, { on := 3, ground := Ground.phase }, { on := 4, ground := Ground.phase }, { on := 5, ground := Ground.phase }, { on := 6, ground := Ground.phase }, { on := 7, ground := Ground.phase }, { on := 8, ground := Ground.phase }, { on := 9, ground := Ground.phase }, { on := 10, ground := Ground.phase }], guard := none }) rfl (fun K hK => ?_) AllReadyH.nil
      go_simp
      rw [set4_eq, Hu2.out]
      refine hK.out _ _ ⟨P2.out.r1, P2.out.r2⟩ (fun hHeld2 => ?_)
      clear hK K hHeld yq0 yq1 yq2 yq3 yf0 yf1 yf2 yf3
      have hHeld := hHeld2
      clear hHeld2
      refine wpAnyH_done (by kernel_rfl) ?_ _
      refine NoPanic.normal ?_
      go_wp2_with fail
      go_meet
      exact ⟨w27.heap.size, wd.heap.size, rfl, rfl, by omega, by omega, by omega, P2.out.sub (by simp) (by simp)⟩
   refine AllReadyH.cons (o := { dst := some 3, op := Op.alloc 32, type := 0, pos := "bytes.go:33", after := #[], guard := none }) rfl (fun K hK => ?_) AllReadyH.nil
   ·have O32 : Hid (WW w [(v26.heap.size, zero4), (wd.heap.size, zero4), (w.heap.size + 1, zero4)] [v26.heap.size, wd.heap.size, w.heap.size + 1] los his _) := hidden (by have k := O26.out.room 32; simpa only [World.size_alloc] using k)
    go_simp
    refine hK.out _ _ ⟨O32.out.r1, O32.out.r2⟩ (fun hHeld2 => ?_)
    clear hK K hHeld
    have hHeld := hHeld2
    clear hHeld2
    generalize v26.alloc (.cells #[.int .u64 0, .int .u64 0, .int .u64 0, .int .u64 0] 32) = v32 at *
    have l32_0 : v26.heap.size < v32.heap.size := (O32.out.st.live (v26.heap.size, zero4) (by simp)).lt
    have l32_1 : wd.heap.size < v32.heap.size := (O32.out.st.live (wd.heap.size, zero4) (by simp)).lt
    have l32_2 : w.heap.size + 1 < v32.heap.size := (O32.out.st.live (w.heap.size + 1, zero4) (by simp)).lt
    refine wpAnyH_ready (rs := [3]) (by kernel_rfl) (by simp) ?_
    refine AllReadyH.cons (o := { dst := some 8, op := Op.call { callee := Callee.value (Operand.func 49), args := #[Operand.tmp 7], argTypes := #[128] }, type := 32, pos := "bytes.go:33", after := #[{ on := 2, ground := Ground.data }], guard := none }) rfl (fun K hK => ?_) AllReadyH.nil
    ·go_simp
     refine (rl.out _).mono ?_
     rintro e w33 ⟨rfl, hb33⟩
     have O33 := hidden (O32.out.keep hb33)
     have l33_0 : v26.heap.size < w33.heap.size := (O33.out.st.live (v26.heap.size, zero4) (by simp)).lt
     have l33_1 : wd.heap.size < w33.heap.size := (O33.out.st.live (wd.heap.size, zero4) (by simp)).lt
     have l33_2 : w.heap.size + 1 < w33.heap.size := (O33.out.st.live (w.heap.size + 1, zero4) (by simp)).lt
     go_wp2_with fail
     refine hK.out _ _ ⟨O33.out.r1, O33.out.r2⟩ (fun hHeld2 => ?_)
     clear hK K hHeld
     have hHeld := hHeld2
     clear hHeld2
     refine wpAnyH_ready (rs := [7]) (by kernel_rfl) (by simp) ?_
     refine AllReadyH.cons (o := { dst := some 12, op := Op.call { callee := Callee.value (Operand.func 49), args := #[Operand.tmp 11], argTypes := #[128] }, type := 32, pos := "bytes.go:33", after := #[{ on := 6, ground := Ground.data }, { on := 3, ground := Ground.chain }], guard := none }) rfl (fun K hK => ?_) AllReadyH.nil
     ·go_simp
      refine (rh.out _).mono ?_
      rintro e w34 ⟨rfl, hb34⟩
      have O34 := hidden (O33.out.keep hb34)
      have l34_0 : v26.heap.size < w34.heap.size := (O34.out.st.live (v26.heap.size, zero4) (by simp)).lt
      have l34_1 : wd.heap.size < w34.heap.size := (O34.out.st.live (wd.heap.size, zero4) (by simp)).lt
      have l34_2 : w.heap.size + 1 < w34.heap.size := (O34.out.st.live (w.heap.size + 1, zero4) (by simp)).lt
      go_wp2_with fail
      refine hK.out _ _ ⟨O34.out.r1, O34.out.r2⟩ (fun hHeld2 => ?_)
      clear hK K hHeld
      have hHeld := hHeld2
      clear hHeld2
      have xq0 := (O34.out.st.live (v26.heap.size, zero4) (by simp)).c0
      have xq1 := (O34.out.st.live (v26.heap.size, zero4) (by simp)).c1
      have xq2 := (O34.out.st.live (v26.heap.size, zero4) (by simp)).c2
      have xq3 := (O34.out.st.live (v26.heap.size, zero4) (by simp)).c3
      have xf0 := (O34.out.st.wrt (v26.heap.size) (by simp)).1.f0
      have xf1 := (O34.out.st.wrt (v26.heap.size) (by simp)).1.f1
      have xf2 := (O34.out.st.wrt (v26.heap.size) (by simp)).1.f2
      have xf3 := (O34.out.st.wrt (v26.heap.size) (by simp)).1.f3
      have P1 := O34.out.set (b := v26.heap.size) (M := [(wd.heap.size, zero4), (w.heap.size + 1, zero4)]) lo (old := zero4) (by simp) (by omega) (by simp; omega)
      generalize hu1 : set4 w34 (v26.heap.size) lo = u1 at P1
      replace P1 := hidden P1
      have Hu1 := hidden hu1
      clear hu1
      refine wpAnyH_ready (rs := [10]) (by kernel_rfl) (by simp) ?_
      refine AllReadyH.cons (o := { dst := none, op := Op.store 32 (Operand.tmp 3) (Operand.tmp 8), type := 0, pos := "bytes.go:33", after := #[{ on := 8, ground := Ground.data }, { on := 3, ground := Ground.data }, { on := 7, ground := Ground.chain }, { on := 0, ground := Ground.phase }, { on := 1, ground := Ground.phase }, { on := 2, ground := Ground.phase }, { on := 3, ground := Ground.phase }, { on := 4, ground := Ground.textOnly Departure.lateStoresUnsure }, { on := 5, ground := Ground.textOnly Departure.lateStores }, { on := 6, ground := Ground.textOnly Departure.lateStores }, { on := 7, ground := Ground.textOnly Departure.lateStoresUnsure }, { on := 8, ground := Ground.phase }, { on := 9, ground := Ground.phase }], guard := none }) rfl (fun K hK => ?_) AllReadyH.nil
      go_simp
      rw [set4_eq, Hu1.out]
      refine hK.out _ _ ⟨P1.out.r1, P1.out.r2⟩ (fun hHeld2 => ?_)
      clear hK K hHeld xq0 xq1 xq2 xq3 xf0 xf1 xf2 xf3
      have hHeld := hHeld2
      clear hHeld2
      have yq0 := (P1.out.st.live (wd.heap.size, zero4) (by simp)).c0
      have yq1 := (P1.out.st.live (wd.heap.size, zero4) (by simp)).c1
      have yq2 := (P1.out.st.live (wd.heap.size, zero4) (by simp)).c2
      have yq3 := (P1.out.st.live (wd.heap.size, zero4) (by simp)).c3
      have yf0 := (P1.out.st.wrt (wd.heap.size) (by simp)).1.f0
      have yf1 := (P1.out.st.wrt (wd.heap.size) (by simp)).1.f1
      have yf2 := (P1.out.st.wrt (wd.heap.size) (by simp)).1.f2
      have yf3 := (P1.out.st.wrt (wd.heap.size) (by simp)).1.f3
      have P2 := P1.out.set (b := wd.heap.size) (M := [(v26.heap.size, lo), (w.heap.size + 1, zero4)]) hi (old := zero4) (by simp) (by omega) (by simp; omega)
      generalize hu2 : set4 u1 (wd.heap.size) hi = u2 at P2
      replace P2 := hidden P2
      have Hu2 := hidden hu2
      clear hu2
      refine wpAnyH_ready (rs := [11]) (by kernel_rfl) (by simp) ?_
      refine AllReadyH.cons (o := { dst := none, op := Op.store 32 (Operand.tmp 4) (Operand.tmp 12), type := 0, pos := "bytes.go:33", after := #[{ on := 9, ground := Ground.data }, { on := 7, ground := Ground.data }, { on := 10, ground := Ground.chain }, { on := 0, ground := Ground.phase }, { on := 1, ground := Ground.phase }, { on := 2, ground := Ground.phase }, { on := 3, ground := Ground.phase }, { on := 4, ground := Ground.phase }, { on := 5, ground := Ground.phase }, { on := 6, ground := Ground.phase }, { on := 7, ground := Ground.phase }, { on := 8, ground := Ground.phase }, { on := 9, ground := Ground.phase }, { on := 10, ground := Ground.phase }], guard := none }) rfl (fun K hK => ?_) AllReadyH.nil
      go_simp
      rw [set4_eq, Hu2.out]
      refine hK.out _ _ ⟨P2.out.r1, P2.out.r2⟩ (fun hHeld2 => ?_)
      clear hK K hHeld yq0 yq1 yq2 yq3 yf0 yf1 yf2 yf3
      have hHeld := hHeld2
      clear hHeld2
      refine wpAnyH_done (by kernel_rfl) ?_ _
      refine NoPanic.normal ?_
      go_wp2_with fail
      go_meet
      exact ⟨v26.heap.size, wd.heap.size, rfl, rfl, by omega, by omega, by omega, P2.out.sub (by simp) (by simp)⟩
 case rest =>
 obtain ⟨X, Y, rfl, rfl, hXY, hX, hY, s2⟩ := hcut
 have SH := hidden s2.st
 clear s2 S0 rl rh ra1 ra2
 have KSt : Hid (∀ w' : World, St w [(Y, hi), (X, lo)] [w.heap.size + 1] w' → (fun w' => St w [(Y, hi), (X, lo)] [w.heap.size + 1] w' ∧ w'.cell? ⟨Y, 0, none⟩ = some (.int .u64 hi.x0) ∧ w'.cell? ⟨Y, 1, none⟩ = some (.int .u64 hi.x1) ∧ w'.cell? ⟨Y, 2, none⟩ = some (.int .u64 hi.x2) ∧ w'.cell? ⟨Y, 3, none⟩ = some (.int .u64 hi.x3) ∧ w'.cell? ⟨X, 0, none⟩ = some (.int .u64 lo.x0) ∧ w'.cell? ⟨X, 1, none⟩ = some (.int .u64 lo.x1) ∧ w'.cell? ⟨X, 2, none⟩ = some (.int .u64 lo.x2) ∧ w'.cell? ⟨X, 3, none⟩ = some (.int .u64 lo.x3)) w') := hidden (fun w' h => ⟨h, (h.live (Y, hi) (by simp)).c0, (h.live (Y, hi) (by simp)).c1, (h.live (Y, hi) (by simp)).c2, (h.live (Y, hi) (by simp)).c3, (h.live (X, lo) (by simp)).c0, (h.live (X, lo) (by simp)).c1, (h.live (X, lo) (by simp)).c2, (h.live (X, lo) (by simp)).c3⟩)
 have K0 := hidden (KSt.out _ (SH.out.sub (M := [(Y, hi), (X, lo)]) (by simp)).drew)
 have N1 : Hid (∀ p ∈ [(Y, hi), (X, lo)], w.heap.size + 1 ≠ p.1) := hidden (by simp; omega)
 have KT1 : ∀ (w2 : World) (t : E4), St w [(Y, hi), (X, lo)] [w.heap.size + 1] w2 → (fun w' => St w [(Y, hi), (X, lo)] [w.heap.size + 1] w' ∧ w'.cell? ⟨Y, 0, none⟩ = some (.int .u64 hi.x0) ∧ w'.cell? ⟨Y, 1, none⟩ = some (.int .u64 hi.x1) ∧ w'.cell? ⟨Y, 2, none⟩ = some (.int .u64 hi.x2) ∧ w'.cell? ⟨Y, 3, none⟩ = some (.int .u64 hi.x3) ∧ w'.cell? ⟨X, 0, none⟩ = some (.int .u64 lo.x0) ∧ w'.cell? ⟨X, 1, none⟩ = some (.int .u64 lo.x1) ∧ w'.cell? ⟨X, 2, none⟩ = some (.int .u64 lo.x2) ∧ w'.cell? ⟨X, 3, none⟩ = some (.int .u64 lo.x3)) (set4 w2 (w.heap.size + 1) t) := fun w2 t h => KSt.out _ (h.aside N1.out (by omega) t)
 simp only [set4] at KT1
 replace KT1 := hidden KT1
 go_upto_region 2 with fail
 go_region_held3 (fun w' => St w [(Y, hi), (X, lo)] [w.heap.size + 1] w' ∧ w'.cell? ⟨Y, 0, none⟩ = some (.int .u64 hi.x0) ∧ w'.cell? ⟨Y, 1, none⟩ = some (.int .u64 hi.x1) ∧ w'.cell? ⟨Y, 2, none⟩ = some (.int .u64 hi.x2) ∧ w'.cell? ⟨Y, 3, none⟩ = some (.int .u64 hi.x3) ∧ w'.cell? ⟨X, 0, none⟩ = some (.int .u64 lo.x0) ∧ w'.cell? ⟨X, 1, none⟩ = some (.int .u64 lo.x1) ∧ w'.cell? ⟨X, 2, none⟩ = some (.int .u64 lo.x2) ∧ w'.cell? ⟨X, 3, none⟩ = some (.int .u64 lo.x3)) (first | with_reducible exact K0.out | with_reducible exact KB.out | with_reducible exact KA.out | with_reducible exact KT1.out wB t KB.out.1)
  (first | (go_at_call 51; refine (EN.out _ (SH.out.drew.tb HT.out)).mono ?_; rintro e wA ⟨u, rfl, hu, hbA⟩; have KA := hidden (KSt.out _ ((SH.out.sub (by simp)).drew.keep hbA))) | (go_at_call 50; refine (AD.out u (E4.is.ok hu) _ ((SH.out.drew.keep hbA).tb HT.out)).mono ?_; rintro e wB ⟨t, rfl, hm, hbB⟩; have sB := (SH.out.drew.keep hbA).keep hbB; have KB := hidden (KSt.out _ (sB.sub (by simp))); have q0 := (sB.live (w.heap.size + 1, zero4) (by simp)).c0; have q1 := (sB.live (w.heap.size + 1, zero4) (by simp)).c1; have q2 := (sB.live (w.heap.size + 1, zero4) (by simp)).c2; have q3 := (sB.live (w.heap.size + 1, zero4) (by simp)).c3; have f0 := (sB.wrt (w.heap.size + 1) (by simp)).1.f0; have f1 := (sB.wrt (w.heap.size + 1) (by simp)).1.f1; have f2 := (sB.wrt (w.heap.size + 1) (by simp)).1.f2; have f3 := (sB.wrt (w.heap.size + 1) (by simp)).1.f3; clear sB))
 go_wp2_with fail
 refine bodyPost_ret (v := .agg #[.int .u64 t.x0, .int .u64 t.x1, .int .u64 t.x2, .int .u64 t.x3]) (by simp [results, Tryz.results33, go_sem, q0, q1, q2, q3]) rfl ⟨t, rfl, is_of hm ?_, ?_⟩
 ·rw [Int.add_emod, E4.is.m hu, ← Int.add_emod]
 ·with_reducible exact (KT1.out wB t KB.out.1).1.bel
end Go.Proofs.YtkoilaoogphgfaaGreatDoor
