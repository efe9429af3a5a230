import Derived.Test.YtagfneojcgcigaaDoorTk
import Derived.Lib.SlBytesConst
namespace Go.Proofs.YtagfneojcgcigaaDoor.Tr
open Go.RowKit
theorem info23 : (Tryd.prog.info? 55).map (fun i => (i.zero, i.size, i.bytes)) = some (some (.slice none 0 0), 1, 24) := by kernel_rfl
theorem mark_new (w : World) (cs : List Value) (t : TypeId) (m : Nat × Nat) : ∀ j u, cs[j]? = some u → (w.alloc (.cells cs.toArray t m)).cell? ((⟨w.heap.size, 0, none⟩ : Addr).add j) = some u := by
  intro j u hu
  have hadd : (⟨w.heap.size, 0, none⟩ : Addr).add j = ⟨w.heap.size, j, none⟩ := by unfold Addr.add; split <;> simp_all
  rw [hadd, World.cell?_alloc_mark]
  simpa using hu
theorem own_some {w : World} {base n : Nat} {e : TypeId} {v : Value} {xs : List Value} (h : w.ownsRow base e 1 v n xs) (hn : 0 < n) : ∃ g c : Nat, v = .slice (some ⟨g, 0, none⟩) n c ∧ n ≤ c := by
  rcases h.2 with ⟨_, h0⟩ | ⟨g, cap, cur, rfl, _, _, hnc, _⟩
  · omega
  · exact ⟨g, cap, rfl, hnc⟩
theorem own_shape {w : World} {base n : Nat} {e : TypeId} {v : Value} {xs : List Value} (h : w.ownsRow base e 1 v n xs) : ∃ (P : Option Addr) (c : Nat), v = .slice P n c := by
  rcases h.2 with ⟨rfl, rfl⟩ | ⟨g, cap, cur, rfl, _⟩
  · exact ⟨none, 0, rfl⟩
  · exact ⟨_, _, rfl⟩
theorem By.blk {w w' : World} {b c : Nat} {bs : List UInt8} (h : By w (some ⟨b, 0, none⟩) c bs) (e : w'.heap[b]? = w.heap[b]?) : By w' (some ⟨b, 0, none⟩) c bs :=
  ⟨h.nil, fun a ha j u hu => by
    have := h.lie a ha j u hu
    obtain rfl := Option.some.inj ha
    rw [← this]
    exact World.cell?_of_block (by rw [show ((⟨b, 0, none⟩ : Addr).add j).block = b by unfold Addr.add; split <;> rfl]; exact e)⟩
theorem grown_blk {w w' : World} {o : Obj} {row : Option Nat} {k : Nat} (hg : (w.alloc o).grownBy w' row) (hk : k < w.heap.size) (hr : some k ≠ row) : w'.heap[k]? = w.heap[k]? := (hg.block k (by simp; omega) hr).trans (heap_alloc_old w o hk)
theorem step_append_at {P : Program} {ops : Array Oper} {o : Oper} {a : Act} {w : World} {K : Act → World → Prop} {Q : Exit → Act → World → Prop} {E : Prop}
    (hg : o.guard = none) (s x : Operand) (t : TypeId) (hop : o.op = Op.call { callee := Callee.builtin Builtin.append, args := #[s, x], argTypes := #[t, t] })
    (base : Nat) (e : TypeId) (i : TypeInfo) (z : Value) (size bytes : Nat) (ht : P.underlying t = some (.slice e)) (hi : P.info? e = some i) (hz : i.zero = some z)
    (hsize : i.size = size) (hby : i.bytes = bytes) (hzs : z.cells.size = size) (hsz : 0 < size)
    (v : Value) (n : Nat) (xs : List Value) (hs : a.eval s = v) (hown : w.ownsRow base e size v n xs)
    (ad : Addr) (m c : Nat) (news : List Value) (hx : a.eval x = .slice (some ad) m c) (hl : news.length = m * size) (hnews : ∀ j u, news[j]? = some u → w.cell? (ad.add j) = some u) (h1 : ∀ u ∈ news, u.oneCell' = true)
    (h63 : n + m ≤ maxLen) (hbytes : (n + m) * bytes ≤ 140737488355328) (hbase : base ≤ w.heap.size)
    (h : ∀ v' w', w'.ownsRow base e size v' (n + m) (xs ++ news) → w.grownBy w' v.ownBlock → (v'.ownBlock = v.ownBlock ∨ v'.ownBlock = some w.heap.size) → K (a.put o.dst v') w') :
    if Region.wanted o (yielded ops a.tmps) = true then Oper.wp P o a w K Q else E := by
  have hw : Region.wanted o (yielded ops a.tmps) = true := by simp [Region.wanted, hg]
  rw [if_pos hw]
  obtain ⟨v', w', hr, h2, h3, _, h5⟩ := run_append_own_at (P := P) w base t o.type e i z size bytes ht hi hz hsize hby hzs hsz v n xs hown ad m c news hl hnews h1 h63 hbytes hbase
  unfold Oper.wp
  simp only [execOp, hop, resolve, invoke, builtin, Sem.run_bind, Sem.run_pure, Result.andThen_ok, List.map_toArray, List.map_cons, List.map_nil, hs, hx, hr]
  exact h v' w' h2 h3 h5
/-- what hand answers -/
def HandR (w : World) (ps : List (List UInt8)) (e : Ending) (w' : World) : Prop := ∃ (vF vH : Value) (fm cm : Nat) (f cp : Nat → Nat), e = .returned (.agg #[vF, vH]) ∧ Hd w' w.heap.size vF vH ps.length ps.length ps.length [.slice (some ⟨fm, 0, none⟩) 8 cm] (fun i => (ps.getD i []).length) (fun i => ps.getD i [] ++ mk8) f cp ∧ By w' (some ⟨fm, 0, none⟩) cm mk8 ∧ w.heap.size ≤ fm ∧ Below w.heap.size w w'
set_option maxRecDepth 100000 in
set_option maxHeartbeats 16000000 in
theorem hand_any (ps : List (List UInt8)) (P : Option Addr) (cap : Nat) (q : Nat → Option Addr) (c : Nat → Nat) (w : World) (hP : Pt w P ps q c) (hs : Bd ps) :
    Calls Tryd.prog 5 #[.slice P ps.length cap] w fun e w' => HandR w ps e w' := by
  have HP := hidden hP
  have HS := hidden hs
  have HPL : Hid (ps.length ≤ 5864062014634) := hidden hs.1
  obtain ⟨i0, hi, hz0, hz1, hz2⟩ := info_parts info23
  have HI := hidden hi
  have HZ0 := hidden hz0
  have HZ1 := hidden hz1
  have HZ2 := hidden hz2
  have HU : Hid (Tryd.prog.underlying 30 = some (.slice 55)) := hidden (by kernel_rfl)
  clear hP hs hi hz0 hz1 hz2
  go_enter Tryd.func5, Tryd.ntmps5
  go_wp2_with fail
  obtain ⟨N, hN⟩ : ∃ N, N = w.heap.size := ⟨_, rfl⟩
  have HN := hidden hN
  rw [← hN]
  have A0 : Hid (B2 ((w.alloc (.cells #[.slice none 0 0, .slice none 0 0] 34)).alloc (.cells #[.slice none 0 0, .slice none 0 0] 34)) (N + 1) 34 (.slice none 0 0) (.slice none 0 0)) := hidden (by
    have := heap_alloc_new (w.alloc (.cells #[.slice none 0 0, .slice none 0 0] 34)) (.cells #[.slice none 0 0, .slice none 0 0] 34)
    rw [World.size_alloc, ← hN] at this
    exact this)
  have A1 : Hid (B2 ((w.alloc (.cells #[.slice none 0 0, .slice none 0 0] 34)).alloc (.cells #[.slice none 0 0, .slice none 0 0] 34)) N 34 (.slice none 0 0) (.slice none 0 0)) := hidden (by
    have := heap_alloc_new w (.cells #[.slice none 0 0, .slice none 0 0] 34)
    rw [← hN] at this
    exact (heap_alloc_old (w.alloc _) _ (by rw [World.size_alloc, ← hN]; omega)).trans this)
  have A2 := hidden (bl_trans (bl_alloc w (.cells #[.slice none 0 0, .slice none 0 0] 34)) (bl_alloc (w.alloc (.cells #[.slice none 0 0, .slice none 0 0] 34)) (.cells #[.slice none 0 0, .slice none 0 0] 34)))
  have A3 : Hid (N + 2 ≤ ((w.alloc (.cells #[.slice none 0 0, .slice none 0 0] 34)).alloc (.cells #[.slice none 0 0, .slice none 0 0] 34)).heap.size) := hidden (by rw [World.size_alloc, World.size_alloc, ← hN]; exact Nat.le_refl _)
  rw [← hN] at A2
  clear hN
  generalize ((w.alloc (.cells #[.slice none 0 0, .slice none 0 0] 34)).alloc (.cells #[.slice none 0 0, .slice none 0 0] 34)) = w1 at A0 A1 A2 A3 ⊢
  go_loopw [4] (fun kv w' => ∃ (k : Nat) (vF vH : Value) (f cp : Nat → Nat), k ≤ ps.length ∧ kv = .int .i64 (k : Int) ∧ Hid (B2 w' (N + 1) 34 vF vH) ∧ Hid (B2 w' N 34 (.slice none 0 0) (.slice none 0 0)) ∧ Hid (Hd w' (N + 2) vF vH k k k [] (fun i => (ps.getD i []).length) (fun i => ps.getD i [] ++ mk8) f cp) ∧ Hid (Below N w w') ∧ Hid (N + 2 ≤ w'.heap.size)) (fun k _ => ps.length - (intOf k).toNat)
  case atStart => exact ⟨0, _, _, id, id, by omega, rfl, A0, A1, hidden (Hd.start _ _ _ _ _ _), A2, A3⟩
  case round =>
    clear A0 A1 A2 A3
    obtain ⟨k, vF, vH, f, cp, hk, rfl, A0, A1, AH, A2, A3⟩ := hrel
    by_cases hkn : k < ps.length
    · obtain ⟨b, o, rfl, hc⟩ := HP.out.lie (by omega)
      have HX0 := hidden (hc k hkn)
      have x0 := cell_keep (hc k hkn) (by rw [← HN.out]; exact A2.out)
      have k0 : (0 : Int) ≤ (k : Int) := by omega
      have k1 : (k : Int) < (ps.length : Int) := by omega
      have w9 : IntKind.i64.wrap ((k : Int) + 1) = (k : Int) + 1 := IntWalk.i64_in _ (by have := HPL.out; omega)
      have EY := hidden ((HP.out.each k hkn).keep (w' := wr) (by rw [← HN.out]; exact A2.out))
      have E1 : Hid ((ps.getD k []).length ≤ 140737488351232) := hidden (HS.out.2 k hkn)
      obtain ⟨p, hp⟩ : ∃ p, p = ps.getD k [] := ⟨_, rfl⟩
      rw [← hp] at x0 HX0 EY E1
      have HPK := hidden hp
      clear hc hp
      go_upto_region 6 with (first | (at_builtin; refine wpList_app_by rfl _ _ rfl wr.heap.size _ [] p _ _ rfl rfl (World.ownsRow_nil _ _ _ _) EY.out (by have := E1.out; simp only [List.length_nil]; omega) (Nat.le_refl _) ?_; intro v2 w2 ho2 hg2; have HO := hidden ho2; have HB := hidden (below_grown hg2 (Nat.le_refl _) (fun j hj => by cases hj)); clear ho2 hg2; rw [List.nil_append] at HO) | (at_builtin; refine wpList_app_sb rfl _ _ rfl wr.heap.size _ p mk8 rfl rfl HO.out (by have := E1.out; have : mk8.length = 8 := rfl; omega) HB.out.size ?_; intro v3 w3 ho3 hg3; have HB3 := hidden (below_trans HB.out (below_grown hg3 HB.out.size (fun j hj => (HO.out.lt j hj).1))); have HO3 := hidden ho3; clear ho3 hg3))
      clear HO HB x0
      have hl8 : (p ++ mk8).length = p.length + 8 := by rw [List.length_append]; rfl
      rw [hl8] at HO3
      clear hl8
      obtain ⟨g, cg, rfl, hcg⟩ := own_some HO3.out (by omega)
      have AH3 : Hid (Hd w3 (N + 2) vF vH k k (k + 1) [] (fun i => (ps.getD i []).length) (fun i => ps.getD i [] ++ mk8) (upd f k g) (upd cp k cg)) := hidden (AH.out.addRow HB3.out A3.out (Nat.le_refl _) (Nat.le_refl _) (by show w3.ownsRow _ _ _ (.slice _ ((ps.getD k []).length + 8) _) ((ps.getD k []).length + 8) (cb (ps.getD k [] ++ mk8)); rw [← HPK.out]; exact HO3.out))
      have B0 := hidden (A0.out.keep HB3.out (by have := A3.out; omega))
      have B1 := hidden (A1.out.keep HB3.out (by have := A3.out; omega))
      have C2 : Hid (Below N w w3) := hidden (below_trans A2.out (HB3.out.mono (by have := A3.out; omega)))
      have C3 : Hid (N + 2 ≤ w3.heap.size) := hidden (Nat.le_trans A3.out HB3.out.size)
      clear HO3 EY AH A0 A1 A2 A3 HB3
      have y0 := B0.out.c0
      go_upto_region 7 with (first | (at_builtin; refine wpList_append_own_at _ rfl _ _ 30 rfl (N + 2) 55 i0 (.slice none 0 0) 1 24 HU.out HI.out HZ0.out HZ1.out HZ2.out rfl (by decide) _ k _ rfl (AH3.out.full.alloc _) ⟨w3.heap.size, 0, none⟩ 1 1 [.slice (some ⟨g, 0, none⟩) (p.length + 8) cg] rfl rfl (cells_new w3 _ _) (by simp [Value.oneCell']) (by have := HPL.out; unfold maxLen; omega) (by have := HPL.out; omega) (by have := C3.out; simp; omega) ?_; intro v4 w4 how4 hgr4 hnil4 hat4; obtain ⟨g4, c4, rfl, hc4⟩ := own_some how4 (by omega); have AH4 := hidden (AH3.out.addFull hgr4 (by rw [upd_at, upd_at, ← HPK.out]; exact how4) hat4); have nF : some (N + 1) ≠ vF.ownBlock := (fun e => by have := (AH3.out.full.lt _ e.symm).1; omega); have nG : some N ≠ vF.ownBlock := (fun e => by have := (AH3.out.full.lt _ e.symm).1; omega); have D0 := hidden (B0.out.blk (grown_blk hgr4 B0.out.lt nF)); have D1 := hidden (B1.out.blk (grown_blk hgr4 B1.out.lt nG)); have D2 := hidden (below_trans C2.out (below_trans ((bl_alloc w3 _).mono (by have := C3.out; omega)) (below_grown (base := N) hgr4 (by have := C3.out; simp; omega) (fun j hj => by have := (AH3.out.full.lt j hj).1; omega)))); have D3 := hidden (Nat.le_trans C3.out (Nat.le_trans (bl_alloc w3 _).size hgr4.size)); have y1 := D0.out.c0; have z1 := D0.out.f 0; clear how4 hgr4 hnil4 hat4 nF nG))
      clear y0
      obtain ⟨v4, hv4⟩ : ∃ v4, v4 = Value.slice (some ⟨g4, 0, none⟩) (k + 1) c4 := ⟨_, rfl⟩
      rw [← hv4] at AH4 ⊢
      clear hv4
      have F0 := hidden (D0.out.set0 v4)
      have F1 := hidden (D1.out.blk (set_ne w4 (N + 1) 0 N v4 (by omega)))
      have F2 : Hid (Below N w (w4.setCell ⟨N + 1, 0, none⟩ v4)) := hidden (D2.out.setCell (by show N ≤ N + 1; omega) v4)
      have F3 : Hid (N + 2 ≤ (w4.setCell ⟨N + 1, 0, none⟩ v4).heap.size) := hidden (by simpa using D3.out)
      have FH := hidden (AH4.out.keep (w' := w4.setCell ⟨N + 1, 0, none⟩ v4) (fun j hj _ => set_ne w4 (N + 1) 0 j v4 (by omega)))
      generalize w4.setCell ⟨N + 1, 0, none⟩ v4 = w5 at F0 F1 F2 F3 FH ⊢
      clear D0 D1 D2 D3 AH3 AH4 B0 B1 C2 C3 y1 z1
      have y0 : w5.drew.cell? ⟨N + 1, 1, none⟩ = some vH := F0.out.c1
      have x0 : w5.drew.cell? ⟨b, o + k, none⟩ = some (.slice (q k) p.length (c k)) := cell_keep HX0.out (by rw [← HN.out]; exact F2.out.drew)
      have y2 : ∀ o, (w5.alloc o).cell? ⟨N + 1, 1, none⟩ = some vH := fun o => cell_keep F0.out.c1 (bl_alloc w5 o)
      have y3 : ∀ o, (w5.alloc o).drew.cell? ⟨N + 1, 1, none⟩ = some vH := fun o => cell_keep F0.out.c1 (bl_alloc w5 o).drew
      have s1 : (p.length : Int) ≤ (cg : Int) := by omega
      have s2 : ¬ cg = 0 := by omega
      have FHH : Hid (w5.drew.ownsRow (N + 2) 55 1 vH k (shd (fun i => (ps.getD i []).length) (upd f k g) (upd cp k cg) k)) := hidden (by have := FH.out.head; rw [List.append_nil] at this; exact this)
      have SZ : Hid (∀ o, N + 2 ≤ (w5.alloc o).drew.heap.size) := hidden (fun o => by have : (w5.alloc o).drew.heap.size = w5.heap.size + 1 := World.size_alloc w5 o; have := F3.out; omega)
      go_region_law (refine step_append_at rfl (.tmp 26) (.tmp 34) 30 rfl (N + 2) 55 i0 (.slice none 0 0) 1 24 HU.out HI.out HZ0.out HZ1.out HZ2.out rfl (by decide) _ k _ (by simp [Act.eval]) (FHH.out.alloc _) ⟨w5.drew.heap.size, 0, none⟩ 1 1 [.slice (some ⟨g, 0, none⟩) p.length cg] (by simp [Act.eval]) rfl (cells_new w5.drew _ _) (by simp [Value.oneCell']) (by have := HPL.out; unfold maxLen; omega) (by have := HPL.out; omega) (SZ.out _) ?_; intro v6 w6 how6 hgr6 hat6; obtain ⟨g6, c6, rfl, hc6⟩ := own_some how6 (by omega); have hg6 : (w5.alloc (.cells [Value.slice (some ⟨g, 0, none⟩) p.length cg].toArray 55)).grownBy w6 vH.ownBlock := ⟨hgr6.os, hgr6.tape, hgr6.output, hgr6.size, hgr6.block⟩; have nF : some (N + 1) ≠ vH.ownBlock := (fun e => by have := (FHH.out.lt _ e.symm).1; omega); have G0 := hidden (F0.out.blk (grown_blk hg6 F0.out.lt nF)); have y1 := G0.out.c1; have z1 := G0.out.f 1)
      all_goals
        have GH := hidden (FH.out.addHead hg6 (by first | exact how6 | (rw [upd_at, upd_at, ← HPK.out]; exact how6)) hat6 (kH' := k + 1) (ex := []) (by rw [List.append_nil, shd_succ, upd_at, upd_at, ← HPK.out]) rfl)
        have nG : some N ≠ vH.ownBlock := fun e => by have := (FHH.out.lt _ e.symm).1; omega
        have G1 := hidden (F1.out.blk (grown_blk hg6 F1.out.lt nG))
        have G2 := hidden (below_trans F2.out (below_trans ((bl_alloc w5 _).mono (by have := F3.out; omega)) (below_grown (base := N) hg6 (by have := F3.out; simp; omega) (fun j hj => by have := (FHH.out.lt j hj).1; omega))))
        have G3 := hidden (Nat.le_trans F3.out (Nat.le_trans (bl_alloc w5 _).size hg6.size))
        clear how6 hgr6 hat6 hg6 nF nG y0 y2 y3 x0 s1 s2 y1 z1 F0 F1 F2 F3 FH FHH SZ
        obtain ⟨v6, hv6⟩ : ∃ v6, v6 = Value.slice (some ⟨g6, 0, none⟩) (k + 1) c6 := ⟨_, rfl⟩
        rw [← hv6] at GH ⊢
        clear hv6
        have J0 := hidden (G0.out.set1 v6)
        have J1 := hidden (G1.out.blk (set_ne w6 (N + 1) 1 N v6 (by omega)))
        have J2 : Hid (Below N w (w6.setCell ⟨N + 1, 1, none⟩ v6)) := hidden (G2.out.setCell (by show N ≤ N + 1; omega) v6)
        have J3 : Hid (N + 2 ≤ (w6.setCell ⟨N + 1, 1, none⟩ v6).heap.size) := hidden (by simpa using G3.out)
        have JH := hidden (GH.out.keep (w' := w6.setCell ⟨N + 1, 1, none⟩ v6) (fun j hj _ => set_ne w6 (N + 1) 1 j v6 (by omega)))
        generalize w6.setCell ⟨N + 1, 1, none⟩ v6 = w7 at J0 J1 J2 J3 JH ⊢
        go_wp2_with fail
        go_roundw
        case rel => exact ⟨k + 1, _, _, _, _, by omega, by go_num, J0, J1, JH, J2, J3⟩
        case measure => simp [intOf]; omega
    · obtain rfl : k = ps.length := by omega
      have lq : ¬ (ps.length : Int) < (ps.length : Int) := by omega
      obtain ⟨PF, cF, rfl⟩ := own_shape AH.out.full
      obtain ⟨PH, cH, hvH⟩ := own_shape AH.out.head
      have y0 := A0.out.c1
      have y2 : ∀ o p, ((wr.alloc o).alloc p).cell? ⟨N + 1, 1, none⟩ = some vH := fun o p => cell_keep (cell_keep A0.out.c1 (bl_alloc wr o)) (bl_alloc _ p)
      obtain ⟨wm, hwm⟩ : ∃ wm, wm = wr.alloc (.cells (cb mk8).toArray 5 (8, 9)) := ⟨_, rfl⟩
      have MH := hidden (AH.out.stay (bl_alloc wr (.cells (cb mk8).toArray 5 (8, 9))))
      have MB : Hid (By (wr.alloc (.cells (cb mk8).toArray 5 (8, 9))) (some ⟨wr.heap.size, 0, none⟩) 8 mk8) := hidden ⟨fun h => (by cases h), fun a ha => by obtain rfl := Option.some.inj ha; exact mark_new wr (cb mk8) _ _⟩
      have M0 := hidden (A0.out.keep (bl_alloc wr (.cells (cb mk8).toArray 5 (8, 9))) A0.out.lt)
      have M1 := hidden (A1.out.keep (bl_alloc wr (.cells (cb mk8).toArray 5 (8, 9))) A1.out.lt)
      have M2 : Hid (Below N w (wr.alloc (.cells (cb mk8).toArray 5 (8, 9)))) := hidden (below_trans A2.out ((bl_alloc wr _).mono (by have := A3.out; omega)))
      have M3 : Hid (N + 2 ≤ (wr.alloc (.cells (cb mk8).toArray 5 (8, 9))).heap.size) := hidden (Nat.le_trans A3.out (bl_alloc wr _).size)
      have ML : Hid (wr.heap.size < (wr.alloc (.cells (cb mk8).toArray 5 (8, 9))).heap.size) := hidden (by rw [World.size_alloc]; omega)
      have HWR : Hid (N + 2 ≤ wr.heap.size ∧ ∀ j, vH.ownBlock = some j → N + 2 ≤ j ∧ j < wr.heap.size) := hidden ⟨A3.out, fun j hj => AH.out.head.lt j hj⟩
      rw [← hwm] at MH MB M0 M1 M2 M3 ML
      have kc : (convert 55 55 (.slice (some ⟨wr.heap.size, 0, none⟩) 8 8)).run Tryd.prog (wr.alloc (.cells #[.int .u8 11, .int .u8 12, .int .u8 13, .int .u8 14, .int .u8 15, .int .u8 16, .int .u8 17, .int .u8 18] 5)) = .ok (.slice (some ⟨wr.heap.size, 0, none⟩) 8 8) wm := by
        rw [hwm]
        exact Lib.run_convert_bytes_const (P := Tryd.prog) wr 55 5 _ 8 8 (by kernel_rfl) (by kernel_rfl)
      clear hwm hvH A0 A1 A2 A3 AH
      obtain ⟨fm, hfm⟩ : ∃ fm, wr.heap.size = fm := ⟨_, rfl⟩
      rw [hfm] at MB ML HWR kc
      have MHH : Hid (wm.ownsRow (N + 2) 55 1 vH ps.length (shd (fun i => (ps.getD i []).length) f cp ps.length)) := hidden (by have := MH.out.head; rw [List.append_nil] at this; exact this)
      go_wp2_with (first | (at_builtin; refine wpList_append_own_at _ rfl _ _ 30 rfl (N + 2) 55 i0 (.slice none 0 0) 1 24 HU.out HI.out HZ0.out HZ1.out HZ2.out rfl (by decide) _ ps.length _ rfl (MHH.out.alloc _) ⟨wm.heap.size, 0, none⟩ 1 1 [.slice (some ⟨fm, 0, none⟩) 8 8] rfl rfl (cells_new wm _ _) (by simp [Value.oneCell']) (by have := HPL.out; unfold maxLen; omega) (by have := HPL.out; omega) (by have := M3.out; simp; omega) ?_; intro v4 w4 how4 hgr4 hnil4 hat4; obtain ⟨g4, c4, rfl, hc4⟩ := own_some how4 (by omega); have GH := hidden (MH.out.addHead (kH' := ps.length) (ex := [.slice (some ⟨fm, 0, none⟩) 8 8]) hgr4 how4 hat4 rfl rfl); have nF : some (N + 1) ≠ vH.ownBlock := (fun e => by have := (MHH.out.lt _ e.symm).1; omega); have nG : some N ≠ vH.ownBlock := (fun e => by have := (MHH.out.lt _ e.symm).1; omega); have nM : some fm ≠ vH.ownBlock := (fun e => by have := (HWR.out.2 _ e.symm).2; omega); have G0 := hidden (M0.out.blk (grown_blk hgr4 M0.out.lt nF)); have G1 := hidden (M1.out.blk (grown_blk hgr4 M1.out.lt nG)); have GB := hidden (MB.out.blk (grown_blk hgr4 ML.out nM)); have G2 := hidden (below_trans M2.out (below_trans ((bl_alloc wm _).mono (by have := M3.out; omega)) (below_grown (base := N) hgr4 (by have := M3.out; simp; omega) (fun j hj => by have := (MHH.out.lt j hj).1; omega)))); have y1 := G0.out.c1; have y3 := G0.out.c0; have z1 := G0.out.f 1; have y4 := G1.out.c0; have y5 := G1.out.c1; have z4 := G1.out.f 0; have z5 := G1.out.f 1; clear how4 hgr4 hnil4 hat4 nF nG nM))
      have KB : ∀ j, j ≠ N → j ≠ N + 1 → (((w4.setCell ⟨N + 1, 1, none⟩ (.slice (some ⟨g4, 0, none⟩) (ps.length + 1) c4)).setCell ⟨N, 0, none⟩ (.slice PF ps.length cF)).setCell ⟨N, 1, none⟩ (.slice (some ⟨g4, 0, none⟩) (ps.length + 1) c4)).heap[j]? = w4.heap[j]? := fun j h1 h2 => by rw [set_ne _ _ _ _ _ h1, set_ne _ _ _ _ _ h1, set_ne _ _ _ _ _ h2]
      have R1 : Hid (B2 (((w4.setCell ⟨N + 1, 1, none⟩ (.slice (some ⟨g4, 0, none⟩) (ps.length + 1) c4)).setCell ⟨N, 0, none⟩ (.slice PF ps.length cF)).setCell ⟨N, 1, none⟩ (.slice (some ⟨g4, 0, none⟩) (ps.length + 1) c4)) N 34 (.slice PF ps.length cF) (.slice (some ⟨g4, 0, none⟩) (ps.length + 1) c4)) := hidden (((G1.out.blk (set_ne _ _ _ _ _ (by omega))).set0 _).set1 _)
      have RH := hidden (GH.out.keep (w' := (((w4.setCell ⟨N + 1, 1, none⟩ (.slice (some ⟨g4, 0, none⟩) (ps.length + 1) c4)).setCell ⟨N, 0, none⟩ (.slice PF ps.length cF)).setCell ⟨N, 1, none⟩ (.slice (some ⟨g4, 0, none⟩) (ps.length + 1) c4))) (fun j hj _ => KB j (by omega) (by omega)))
      have RB := hidden (GB.out.blk (w' := (((w4.setCell ⟨N + 1, 1, none⟩ (.slice (some ⟨g4, 0, none⟩) (ps.length + 1) c4)).setCell ⟨N, 0, none⟩ (.slice PF ps.length cF)).setCell ⟨N, 1, none⟩ (.slice (some ⟨g4, 0, none⟩) (ps.length + 1) c4))) (KB fm (by have := HWR.out.1; omega) (by have := HWR.out.1; omega)))
      have R2 : Hid (Below N w (((w4.setCell ⟨N + 1, 1, none⟩ (.slice (some ⟨g4, 0, none⟩) (ps.length + 1) c4)).setCell ⟨N, 0, none⟩ (.slice PF ps.length cF)).setCell ⟨N, 1, none⟩ (.slice (some ⟨g4, 0, none⟩) (ps.length + 1) c4))) := hidden (((G2.out.setCell (by show N ≤ N + 1; omega) _).setCell (Nat.le_refl _) _).setCell (Nat.le_refl _) _)
      clear KB y1 y3 y4 y5 z1 z4 z5
      generalize (((w4.setCell ⟨N + 1, 1, none⟩ (.slice (some ⟨g4, 0, none⟩) (ps.length + 1) c4)).setCell ⟨N, 0, none⟩ (.slice PF ps.length cF)).setCell ⟨N, 1, none⟩ (.slice (some ⟨g4, 0, none⟩) (ps.length + 1) c4)) = w8 at R1 RH RB R2 ⊢
      have c0 := R1.out.c0
      have c1 := R1.out.c1
      refine bodyPost_ret (v := .agg #[.slice PF ps.length cF, .slice (some ⟨g4, 0, none⟩) (ps.length + 1) c4]) (by simp [results, Tryd.results5, go_sem, c0, c1]) rfl ?_
      have hN := HN.out
      refine ⟨_, _, fm, 8, f, cp, rfl, ⟨own_base RH.out.full (by omega), own_base RH.out.head (by omega), fun i hi => own_base (RH.out.row i hi) (by omega), RH.out.off, RH.out.ne, RH.out.fh⟩, RB.out, by have := HWR.out.1; omega, by rw [← hN]; exact R2.out⟩
end Go.Proofs.YtagfneojcgcigaaDoor.Tr
