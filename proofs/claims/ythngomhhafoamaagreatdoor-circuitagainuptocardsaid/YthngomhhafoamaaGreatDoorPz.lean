import Derived.Test.YthngomhhafoamaaGreatDoorSde
import Derived.Test.YthngomhhafoamaaGreatDoorSsm2
import Derived.Test.YthngomhhafoamaaGreatDoorWz
import Derived.Laws.Tables
set_option linter.unusedVariables false
namespace Go.Proofs.YthngomhhafoamaaGreatDoor
open Go.RowKit
theorem results_cellM {fn : Func} {p : Tmp} {ty : TypeId} (h : fn.results = #[.cell p ty]) (tmps : Array Value) (P : Program) (w : World) (a : Addr) (v : Value) (ha : tmps.getD p undef = .pointer (some a)) (hl : (loadVar ty a).run P w = .ok v w) :
  (results fn tmps).run P w = .ok v w := by
 have e : (results fn tmps).run P w = ((asAddr (tmps.getD p undef)).run P w).andThen fun a w1 => (loadVar ty a).run P w1 := by
  simp only [results, h]
  simp [Sem.run_bind, Result.andThen]
 rw [e, ha]
 simp [asAddr, hl, Result.andThen]
theorem below_setCellsM {w0 : World} (b : Nat) : ∀ (vs : List Value) (o : Nat) {w : World}, Below w0.heap.size w0 w → w0.heap.size ≤ b → Below w0.heap.size w0 (w.setCells b o vs)
 | [], _, _, h, _ => h
 | v :: vs, o, w, h, hb => by
  rw [World.setCells]
  exact below_setCellsM b vs (o + 1) (h.setCell hb v) hb
theorem size_setCellsM (b : Nat) : ∀ (vs : List Value) (o : Nat) (w : World), (w.setCells b o vs).heap.size = w.heap.size
 | [], _, _ => rfl
 | v :: vs, o, w => by rw [World.setCells, size_setCellsM b vs (o + 1)]; simp
theorem range_keepM {w w' : World} {b : Nat} {cs : List Value} (h : w.rangeAt b 0 cs) (hb : Below w.heap.size w w') : w'.rangeAt b 0 cs := fun j v hv => by
 have := h j v hv
 rw [hb.cell (p := ⟨b, 0 + j, none⟩) (World.block_lt_of_cell? w ⟨b, 0 + j, none⟩ this)]
 exact this
theorem there_keepM {w w' : World} {b n : Nat} (h : w.there b 0 n) (hb : Below w.heap.size w w') : w'.there b 0 n := fun j hj => by
 obtain ⟨h1, h2⟩ := h j hj
 obtain ⟨u, hu⟩ := Option.isSome_iff_exists.1 h1
 have hl := World.block_lt_of_cell? w _ hu
 exact ⟨by rw [hb.cell (p := ⟨b, 0 + j, none⟩) hl]; exact h1, by rw [hb.frozen (p := ⟨b, 0 + j, none⟩) hl]; exact h2⟩
theorem there_setM {w : World} {b n : Nat} (h : w.there b 0 n) (c : Nat) (vs : List Value) : (w.setCells c 0 vs).there b 0 n := fun j hj =>
 ⟨World.isSome_setCells c vs 0 w _ (h j hj).1, by rw [World.frozen?_setCells]; exact (h j hj).2⟩
theorem range_newM (w : World) (cs : List Value) (t : TypeId) : (w.alloc (.cells cs.toArray t)).rangeAt w.heap.size 0 cs := fun j v hv => by
 rw [cell_of_row _ _ (0 + j) cs.toArray t (0, 0) (heap_alloc_new w _), Nat.zero_add]
 simpa using hv
theorem there_newM (w : World) (cs : List Value) (t : TypeId) : (w.alloc (.cells cs.toArray t)).there w.heap.size 0 cs.length := fun j hj => by
 refine ⟨?_, by go_simp⟩
 rw [cell_of_row _ _ (0 + j) cs.toArray t (0, 0) (heap_alloc_new w _), Nat.zero_add]
 simp [hj]
structure Mw (w0 : World) (L : List (Nat × List Value)) (w : World) : Prop where
 bel : Below w0.heap.size w0 w
 r : ∀ p ∈ L, w.rangeAt p.1 0 p.2 ∧ w.there p.1 0 p.2.length ∧ w0.heap.size ≤ p.1 ∧ p.1 < w.heap.size
theorem Mw.start (w : World) : Mw w [] w := ⟨Below.refl _ _, fun p hp => by cases hp⟩
theorem Mw.keep {w0 : World} {L : List (Nat × List Value)} {w w' : World} (h : Mw w0 L w) (hb : Below w.heap.size w w') : Mw w0 L w' :=
 ⟨bl_trans h.bel hb, fun p hp => ⟨range_keepM (h.r p hp).1 hb, there_keepM (h.r p hp).2.1 hb, (h.r p hp).2.2.1, Nat.lt_of_lt_of_le (h.r p hp).2.2.2 hb.size⟩⟩
theorem Mw.sub {w0 : World} {L M : List (Nat × List Value)} {w : World} (h : Mw w0 L w) (hs : ∀ p ∈ M, p ∈ L) : Mw w0 M w := ⟨h.bel, fun p hp => h.r p (hs p hp)⟩
theorem Mw.new {w0 : World} {L : List (Nat × List Value)} {w : World} (h : Mw w0 L w) (cs : List Value) (t : TypeId) : Mw w0 ((w.heap.size, cs) :: L) (w.alloc (.cells cs.toArray t)) := by
 have k := h.keep (bl_alloc w (.cells cs.toArray t))
 refine ⟨k.bel, fun p hp => ?_⟩
 rcases List.mem_cons.1 hp with rfl | hp
 ·exact ⟨range_newM w cs t, there_newM w cs t, h.bel.size, by simp⟩
 ·exact k.r p hp
theorem Mw.set {w0 : World} {L M : List (Nat × List Value)} {w : World} (h : Mw w0 L w) {c : Nat} {o : List Value} (ds : List Value) (hc : (c, o) ∈ L) (hl : ds.length = o.length) (hs : ∀ p ∈ M, p ∈ L ∧ c ≠ p.1) :
  Mw w0 ((c, ds) :: M) (w.setCells c 0 ds) := by
 obtain ⟨h1, ht, hg, hlt⟩ := h.r _ hc
 simp only at hg ht hlt
 refine ⟨below_setCellsM c ds 0 h.bel hg, fun p hp => ?_⟩
 rcases List.mem_cons.1 hp with rfl | hp
 ·exact ⟨World.rangeAt_setCells_same w c 0 ds (by rw [hl]; exact ht), there_setM (by simp only [hl]; exact ht) _ _, hg, by rw [size_setCellsM]; exact hlt⟩
 ·obtain ⟨h3, h2⟩ := hs p hp
  exact ⟨World.rangeAt_setCells_apart (h.r p h3).1 _ _ _ (Or.inl (fun e => h2 e.symm)), there_setM (h.r p h3).2.1 _ _, (h.r p h3).2.2.1, by rw [size_setCellsM]; exact (h.r p h3).2.2.2⟩
theorem Mw.ther {w0 : World} {L : List (Nat × List Value)} {w : World} (h : Mw w0 L w) {c : Nat} {o : List Value} (ds : List Value) (hc : (c, o) ∈ L) (hl : ds.length = o.length) : w.there c 0 ds.toArray.size := by
 have := (h.r _ hc).2.1
 simpa [hl] using this
theorem Mw.var {w0 : World} {L : List (Nat × List Value)} {w : World} (h : Mw w0 L w) {c : Nat} {ds : List Value} (hc : (c, ds) ∈ L) {ty : TypeId} {d : TypeDesc} (hu : Tryz.prog.underlying ty = some d) (hd : d.isRow = true) (hi : (Tryz.prog.info? ty).map (·.size) = some ds.length) :
  (loadVar ty ⟨c, 0, none⟩).run Tryz.prog w = .ok (.agg ds.toArray) w := run_loadVar_mid w c 0 ty ds d (h.r _ hc).1 hu hd hi
theorem c4_one (a : E4) : [Value.int .u64 a.x0, .int .u64 a.x1, .int .u64 a.x2, .int .u64 a.x3].toArray.all (·.oneCell') = true := by simp [Value.oneCell']
theorem by_len (m : Int) : ((bytes m).map fun z => Value.int .u8 z).length = 32 := by simp [bytes]
theorem b_und : Tryz.prog.underlying 79 = some (.array 32 5) := by kernel_rfl
theorem b_i (m : Int) : (Tryz.prog.info? 79).map (·.size) = some ((bytes m).map fun z => Value.int .u8 z).length := by rw [by_len]; kernel_rfl
theorem b_i2 (m : Int) : (Tryz.prog.info? 79).map (·.size) = some ((bytes m).map fun z => Value.int .u8 z).toArray.size := by rw [List.size_toArray, by_len]; kernel_rfl
theorem b_one (m : Int) : ((bytes m).map fun z => Value.int .u8 z).toArray.all (·.oneCell') = true := all_oneCell_toArray (fun v hv => by obtain ⟨z, _, rfl⟩ := List.mem_map.1 hv; rfl)
theorem results_pairM {fn : Func} {p q : Tmp} {ty : TypeId} (h : fn.results = #[.cell p ty, .tmp q]) (tmps : Array Value) (P : Program) (w : World) (a : Addr) (v u : Value) (ha : tmps.getD p undef = .pointer (some a)) (hu : tmps.getD q undef = u) (hl : (loadVar ty a).run P w = .ok v w) :
  (results fn tmps).run P w = .ok (.tuple #[v, u]) w := by
 have ha' : tmps[p]?.getD undef = .pointer (some a) := by simpa using ha
 have hu' : tmps[q]?.getD undef = u := by simpa using hu
 simp [results, h, ha', hu', asAddr, hl, Result.andThen]
theorem bz_i {zs : List Int} (lz : zs.length = 32) : (Tryz.prog.info? 79).map (·.size) = some (zs.map fun z => Value.int .u8 z).length := by rw [List.length_map, lz]; kernel_rfl
theorem num_range : ∀ (k M : Nat), num ((List.range k).map fun j => ((M / 256 ^ j % 256 : Nat) : Int)) = M % 256 ^ k
 | 0, M => by simp [num, Nat.mod_one]
 | k + 1, M => by
  have ih := num_range k (M / 256)
  rw [List.range_succ_eq_map, List.map_cons, List.map_map, num]
  have e : ((fun j : Nat => ((M / 256 ^ j % 256 : Nat) : Int)) ∘ Nat.succ) = fun j => ((M / 256 / 256 ^ j % 256 : Nat) : Int) := by
   funext j
   show ((M / 256 ^ (j + 1) % 256 : Nat) : Int) = _
   rw [Nat.pow_succ, Nat.mul_comm, ← Nat.div_div_eq_div_mul]
  rw [e, ih, Nat.pow_succ, Nat.mul_comm (256 ^ k), Nat.mod_mul]
  simp
  omega
theorem byt_nat (M j : Nat) : byt (M : Int) j = ((M / 256 ^ j % 256 : Nat) : Int) := by unfold byt; simp
theorem num_bytes (M : Nat) (h : M < 256 ^ 32) : num (bytes (M : Int)) = M := by
 have e : byt (M : Int) = fun j => ((M / 256 ^ j % 256 : Nat) : Int) := by funext j; exact byt_nat M j
 unfold bytes
 rw [e, num_range, Nat.mod_eq_of_lt h]
theorem bytes_bd (m : Int) : ∀ z ∈ bytes m, 0 ≤ z ∧ z ≤ 255 := by
 intro z hz
 obtain ⟨j, _, rfl⟩ := List.mem_map.1 hz
 exact byt_bd m j
theorem bytes_num (zs : List Int) (lz : zs.length = 32) (hz : ∀ z ∈ zs, 0 ≤ z ∧ z ≤ 255) : bytes (num zs : Int) = zs := by
 apply List.ext_getElem?
 intro j
 by_cases hj : j < 32
 ·rw [bytes_get _ _ hj, byt_nat, ← num_get zs j hz, List.getD_eq_getElem?_getD, List.getElem?_eq_getElem (by omega)]
  simp
 ·rw [List.getElem?_eq_none (by rw [bytes_len]; omega), List.getElem?_eq_none (by omega)]
theorem num_bytes_L (n : Int) : ((num (bytes (n % Sm.L)) : Nat) : Int) = n % Sm.L := by
 obtain ⟨h0, h1⟩ := mod_bd n
 have h2 := mod_bd4 n
 obtain ⟨M, hM⟩ := Int.eq_ofNat_of_zero_le h0
 rw [hM] at h2 ⊢
 rw [num_bytes M (by simp only [Nat.reducePow]; omega)]
structure Rl (w : World) (b o n : Nat) (g : Nat → E4) : Prop where
 c0 : ∀ k, k < n → w.cell? ⟨b, o + k * 4, none⟩ = some (.int .u64 (g k).x0)
 c1 : ∀ k, k < n → w.cell? ⟨b, o + k * 4 + 1, none⟩ = some (.int .u64 (g k).x1)
 c2 : ∀ k, k < n → w.cell? ⟨b, o + k * 4 + 2, none⟩ = some (.int .u64 (g k).x2)
 c3 : ∀ k, k < n → w.cell? ⟨b, o + k * 4 + 3, none⟩ = some (.int .u64 (g k).x3)
theorem Rl.keep {w1 w2 : World} {b o n : Nat} {g : Nat → E4} (h : Rl w1 b o n g) (hb : Below w1.heap.size w1 w2) : Rl w2 b o n g :=
 ⟨fun k hk => cell_keep (h.c0 k hk) hb, fun k hk => cell_keep (h.c1 k hk) hb, fun k hk => cell_keep (h.c2 k hk) hb, fun k hk => cell_keep (h.c3 k hk) hb⟩
def svs (n : Nat) (g : Nat → E4) : List Value := (List.range n).flatMap fun k => [.int .u64 (g k).x0, .int .u64 (g k).x1, .int .u64 (g k).x2, .int .u64 (g k).x3]
theorem svs_succ (n : Nat) (g : Nat → E4) : svs (n + 1) g = svs n g ++ [.int .u64 (g n).x0, .int .u64 (g n).x1, .int .u64 (g n).x2, .int .u64 (g n).x3] := by simp [svs, List.range_succ]
theorem svs_len (n : Nat) (g : Nat → E4) : (svs n g).length = n * 4 := by
 induction n with
 | zero => rfl
 | succ n ih => rw [svs_succ, List.length_append, ih]; simp; omega
theorem rl_of {w : World} {b n : Nat} {g : Nat → E4} (hr : w.rangeAt b 0 (svs n g)) : Rl w b 0 n g := by
 have hs : ∀ k d, k < n → d < 4 → (svs n g)[k * 4 + d]? = some ([Value.int .u64 (g k).x0, .int .u64 (g k).x1, .int .u64 (g k).x2, .int .u64 (g k).x3].getD d undef) := by
  intro k d hk hd
  clear hr
  induction n with
  | zero => omega
  | succ n ih =>
   rw [svs_succ]
   by_cases hkn : k < n
   ·rw [List.getElem?_append_left (by rw [svs_len]; omega)]
    exact ih hkn
   ·have : k = n := by omega
    subst this
    rw [List.getElem?_append_right (by rw [svs_len]; omega), svs_len, show k * 4 + d - k * 4 = d by omega]
    obtain rfl | rfl | rfl | rfl : d = 0 ∨ d = 1 ∨ d = 2 ∨ d = 3 := by omega
    all_goals rfl
 exact ⟨fun k hk => hr _ _ (hs k 0 hk (by omega)), fun k hk => by rw [Nat.add_assoc]; exact hr _ _ (hs k 1 hk (by omega)), fun k hk => by rw [Nat.add_assoc]; exact hr _ _ (hs k 2 hk (by omega)), fun k hk => by rw [Nat.add_assoc]; exact hr _ _ (hs k 3 hk (by omega))⟩
theorem run_app_fits (w : World) (base ty g n cap : Nat) (xs bs : List UInt8) (a : Addr) (c : Nat) (ho : w.ownsRow base 5 1 (.slice (some ⟨g, 0, none⟩) n cap) n (Tr.cb xs)) (hB : Tr.By w (some a) c bs) (hx : n + bs.length ≤ cap) :
  ∃ w', (Builtin.append_ #[44, 44] ty #[.slice (some ⟨g, 0, none⟩) n cap, .slice (some a) bs.length c]).run Tryz.prog w = .ok (.slice (some ⟨g, 0, none⟩) (n + bs.length) cap) w' ∧ w'.ownsRow base 5 1 (.slice (some ⟨g, 0, none⟩) (n + bs.length) cap) (n + bs.length) (Tr.cb (xs ++ bs)) ∧ w.grownBy w' (some g) := by
 have h1 : Tryz.prog.underlying 44 = some (.slice 5) := by kernel_rfl
 have hi : Tryz.prog.info? 5 = some (Tryz.prog.info? 5).get! := by kernel_rfl
 have hs : (Tryz.prog.info? 5).get!.size = 1 := by kernel_rfl
 have hxl : (Tr.cb xs).length = n * 1 := ho.1
 rcases ho.2 with ⟨h', _⟩ | ⟨g', cap', cur, h', hbg, hg, hnc, hcm, hcs, htake⟩
 ·simp at h'
 ·simp only [Value.slice.injEq, Option.some.injEq, Addr.mk.injEq, and_true, true_and] at h'
  obtain ⟨rfl, rfl⟩ := h'
  have hr := run_append_room (P := Tryz.prog) w _ ty _ _ h1 hi g n cap cur hg a bs.length c (Tr.cb bs) (by simp [hs, Tr.cb_len]) (hB.lie a rfl) (Tr.cb_one bs) hx (by rw [hs, Tr.cb_len]; omega)
  rw [hs] at hr
  refine ⟨_, hr, ⟨by rw [Tr.cb_app, List.length_append, hxl, Tr.cb_len, Nat.add_mul, Nat.mul_one bs.length], .inr ⟨g, cap, _, rfl, hbg, setRow_heap w g cur _ _ _ hg, hx, hcm, ?_, ?_⟩⟩, ⟨rfl, rfl, rfl, by simp, fun k _ hk => setRow_other w g k _ (fun e => hk (by simp [e]))⟩⟩
  ·simp only [List.size_toArray, List.length_append, List.length_take, List.length_drop, Array.length_toList, Tr.cb_len]
   omega
  ·rw [htake, Tr.cb_app]
   have : (n + bs.length) * 1 = (Tr.cb xs ++ Tr.cb bs).length := by rw [List.length_append, hxl, Tr.cb_len]; omega
   rw [this]
   exact List.take_left
end Go.Proofs.YthngomhhafoamaaGreatDoor
namespace Go.Proofs.YthngomhhafoamaaGreatDoor
open Go.RowKit
theorem kp_cell {G : Nat} {w w' : World} {b o : Nat} {v : Value} (k : Tr.Kp G w w') (h : w.cell? ⟨b, o, none⟩ = some v) (hne : b ≠ G) : w'.cell? ⟨b, o, none⟩ = some v := by
 rw [← h]
 exact World.cell?_of_block (k.block b (World.block_lt_of_cell? w ⟨b, o, none⟩ h) hne)
theorem Tb.kp {G : Nat} {w w' : World} (h : Tb w) (k : Tr.Kp G w w') (hG : 0 ≠ G) : Tb w' := by
 obtain ⟨h0, h1, h2, h3, h4, h5, h6, h7, h8, h9, h10, h11⟩ := h
 exact ⟨kp_cell k h0 hG, kp_cell k h1 hG, kp_cell k h2 hG, kp_cell k h3 hG, kp_cell k h4 hG, kp_cell k h5 hG, kp_cell k h6 hG, kp_cell k h7 hG, kp_cell k h8 hG, kp_cell k h9 hG, kp_cell k h10 hG, kp_cell k h11 hG⟩
theorem Rl.kp {G : Nat} {w w' : World} {b o n : Nat} {g : Nat → E4} (h : Rl w b o n g) (k : Tr.Kp G w w') (hne : b ≠ G) : Rl w' b o n g :=
 ⟨fun j hj => kp_cell k (h.c0 j hj) hne, fun j hj => kp_cell k (h.c1 j hj) hne, fun j hj => kp_cell k (h.c2 j hj) hne, fun j hj => kp_cell k (h.c3 j hj) hne⟩
def eb (n : Int) : List UInt8 := (bytes (n % Sm.L)).map fun z => UInt8.ofNat z.toNat
theorem eb_len (n : Int) : (eb n).length = 32 := by simp [eb, bytes_len]
theorem eb_cb (n : Int) : Tr.cb (eb n) = (bytes (n % Sm.L)).map fun z => Value.int .u8 z := by
 unfold Tr.cb eb
 rw [List.map_map]
 refine List.map_congr_left fun z hz => ?_
 obtain ⟨h0, h1⟩ := bytes_bd _ z hz
 simp only [Function.comp]
 rw [UInt8.toNat_ofNat', show z.toNat % 2 ^ 8 = z.toNat by omega, Int.toNat_of_nonneg h0]
def zi (l : List UInt8) : List Int := l.map fun b => (b.toNat : Int)
theorem zi_len (l : List UInt8) : (zi l).length = l.length := by simp [zi]
theorem zi_bd (l : List UInt8) : ∀ z ∈ zi l, 0 ≤ z ∧ z ≤ 255 := by
 intro z hz
 obtain ⟨b, _, rfl⟩ := List.mem_map.1 hz
 have := b.toNat_lt
 omega
theorem zi_cb (l : List UInt8) : ((zi l).map fun z => Value.int .u8 z) = Tr.cb l := by simp [zi, Tr.cb]
theorem zi_eb (n : Int) : zi (eb n) = bytes (n % Sm.L) := by
 unfold zi eb
 rw [List.map_map]
 refine (List.map_congr_left fun z hz => ?_).trans (List.map_id _)
 obtain ⟨h0, h1⟩ := bytes_bd _ z hz
 simp only [Function.comp, id]
 rw [UInt8.toNat_ofNat', show z.toNat % 2 ^ 8 = z.toNat by omega, Int.toNat_of_nonneg h0]
theorem zi_inj {a b : List UInt8} (h : zi a = zi b) : a = b := by
 have := congrArg (List.map fun z : Int => UInt8.ofNat z.toNat) h
 simpa [zi, Function.comp_def] using this
def dn (l : List UInt8) : Int := (num (zi l) : Int)
theorem dn_ge (l : List UInt8) : 0 ≤ dn l := by unfold dn; omega
def ef (n : Nat) (g : Nat → E4) : List UInt8 := (List.range n).flatMap fun k => eb (g k).n
theorem ef_zero (g : Nat → E4) : ef 0 g = [] := rfl
theorem ef_succ (n : Nat) (g : Nat → E4) : ef (n + 1) g = ef n g ++ eb (g n).n := by simp [ef, List.range_succ]
theorem ef_len (n : Nat) (g : Nat → E4) : (ef n g).length = 32 * n := by
 induction n with
 | zero => rfl
 | succ n ih => rw [ef_succ, List.length_append, ih, eb_len]; omega
theorem by_range {w : World} {b c : Nat} {l : List UInt8} (h : w.rangeAt b 0 (Tr.cb l)) : Tr.By w (some ⟨b, 0, none⟩) c l :=
 ⟨fun h => (by cases h), fun a ha j u hu => by
  obtain rfl := Option.some.inj ha
  rw [Addr.add_mid]
  exact h j u hu⟩
theorem wpList_app_fits {w : World} {ops : Array Oper} {rest : List Oper} {o : Oper} {a : Act} {Q : Exit → Act → World → Prop} (hgd : o.guard = none) (s x : Operand)
  (ho : o.op = Op.call { callee := Callee.builtin Builtin.append, args := #[s, x], argTypes := #[44, 44] })
  (base g n cap : Nat) (xs bs : List UInt8) (ad : Addr) (m c : Nat) (hm : m = bs.length) (hs : a.eval s = .slice (some ⟨g, 0, none⟩) n cap) (hx : a.eval x = .slice (some ad) m c) (hown : w.ownsRow base 5 1 (.slice (some ⟨g, 0, none⟩) n cap) n (Tr.cb xs)) (hB : Tr.By w (some ad) c bs) (hroom : n + m ≤ cap)
  (h : ∀ w', w'.ownsRow base 5 1 (.slice (some ⟨g, 0, none⟩) (n + m) cap) (n + m) (Tr.cb (xs ++ bs)) → w.grownBy w' (some g) → wpList Tryz.prog ops Q rest (a.put o.dst (.slice (some ⟨g, 0, none⟩) (n + m) cap)) w') : wpList Tryz.prog ops Q (o :: rest) a w := by
 subst hm
 refine wpList_plain hgd fun K hK => ?_
 obtain ⟨w', hr, h2, h3⟩ := run_app_fits w base o.type g n cap xs bs ad c hown hB hroom
 unfold Oper.wp execOp
 simp only [ho, resolve, invoke, builtin, Sem.run_bind, Sem.run_pure, Result.andThen_ok, List.map_toArray, List.map_cons, List.map_nil, hs, hx, hr]
 exact hK _ _ (h w' h2 h3)
def z32 : List Value := List.replicate 32 (.int .u8 0)
theorem mt_EncodeS (a : E4) (w : World) : (method 274 35 (.agg #[.int .u64 a.x0, .int .u64 a.x1, .int .u64 a.x2, .int .u64 a.x3]) "Encode").run Tryz.prog w = .ok (41, .agg #[.int .u64 a.x0, .int .u64 a.x1, .int .u64 a.x2, .int .u64 a.x3]) w := by kernel_rfl
end Go.Proofs.YthngomhhafoamaaGreatDoor
