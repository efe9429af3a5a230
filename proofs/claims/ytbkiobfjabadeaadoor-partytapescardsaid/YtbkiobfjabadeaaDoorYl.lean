import Derived.Test.YtbkiobfjabadeaaDoorYk
namespace Go.Proofs.YtbkiobfjabadeaaDoor
open Go.RowKit
set_option linter.unusedVariables false
/-- append that tells what became of the old row -/
theorem run_append_tell {P : Program} (w : World) (base : Nat) (t ty e : TypeId) (i : TypeInfo) (z : Value) (ht : P.underlying t = some (.slice e)) (hi : P.info? e = some i) (hz : i.zero = some z)
    (hsize : i.size = 4) (hby : i.bytes = 32) (hzs : z.cells.size = 4) (v : Value) (n : Nat) (xs : List Value) (hown : w.ownsRow base e 4 v n xs)
    (a : Addr) (news : List Value) (hl : news.length = 4) (hnews : ∀ j u, news[j]? = some u → w.cell? (a.add j) = some u) (h1 : ∀ u ∈ news, u.oneCell' = true)
    (h63 : n + 1 ≤ maxLen) (hbytes : (n + 1) * 32 ≤ 140737488355328) (hbase : base ≤ w.heap.size) :
    ∃ v' w', (Builtin.append_ #[t, t] ty #[v, .slice (some a) 1 1]).run P w = .ok v' w' ∧ w'.ownsRow base e 4 v' (n + 1) (xs ++ news) ∧ w.grownBy w' v.ownBlock ∧
      ((∃ g cap, v = .slice (some ⟨g, 0, none⟩) n cap ∧ v' = .slice (some ⟨g, 0, none⟩) (n + 1) cap) ∨ (v'.ownBlock = some w.heap.size ∧ Below w.heap.size w w')) := by
  obtain ⟨v', w', hr, ho', hg, _, hat⟩ := run_append_own_at (P := P) w base t ty e i z 4 32 ht hi hz hsize hby hzs (by decide) v n xs hown a 1 1 news (by omega) hnews h1 h63 hbytes hbase
  refine ⟨v', w', hr, ho', hg, ?_⟩
  rcases hown.2 with ⟨rfl, rfl⟩ | ⟨g, cap, cur, rfl, hbg, hgg, hnc, hcm, hcs, htake⟩
  · refine .inr ⟨?_, ⟨hg.os, hg.tape, hg.output, hg.size, fun k hk => hg.block k hk (by simp [Value.ownBlock])⟩⟩
    rcases hat with h | h
    · obtain ⟨g', c', e', _⟩ := own_some4 ho' (by omega)
      rw [e'] at h
      simp [Value.ownBlock] at h
    · exact h
  · by_cases hroom : n + 1 ≤ cap
    · have hr2 := run_append_room (P := P) w t ty e i ht hi g n cap cur hgg a 1 1 news (by omega) hnews h1 hroom (by rw [hsize, hcs]; omega)
      rw [hr] at hr2
      simp only [Result.ok.injEq] at hr2
      exact .inl ⟨g, cap, rfl, hr2.1⟩
    · have hr2 := run_append_grow (P := P) w t ty e i z ht hi hz ⟨g, 0, none⟩ n cap xs (by rw [hsize]; exact hown.1) (hown.cells (g := g) rfl) a 1 1 news (by omega) hnews (by omega) (by simp only [maxLen] at h63; omega) (growslice_fits (by omega) (by rw [hby]; exact hbytes))
      rw [hr] at hr2
      simp only [Result.ok.injEq] at hr2
      obtain ⟨rfl, rfl⟩ := hr2
      exact .inr ⟨rfl, ⟨rfl, rfl, rfl, by simp, fun k hk => heap_alloc_old w.drew _ hk⟩⟩
theorem wpList_append_tell {P : Program} {w : World} {ops : Array Oper} {rest : List Oper} {o : Oper} {a : Act} {Q : Exit → Act → World → Prop} (hgd : o.guard = none) (s x : Operand) (t : TypeId)
    (ho : o.op = .call { callee := .builtin .append, args := #[s, x], argTypes := #[t, t] })
    (base : Nat) (e : TypeId) (i : TypeInfo) (z : Value) (ht : P.underlying t = some (.slice e)) (hi : P.info? e = some i) (hz : i.zero = some z)
    (hsize : i.size = 4) (hby : i.bytes = 32) (hzs : z.cells.size = 4) (v : Value) (n : Nat) (xs : List Value) (hs : a.eval s = v) (hown : w.ownsRow base e 4 v n xs)
    (ad : Addr) (us : List Value) (hx : a.eval x = .slice (some ad) 1 1) (hus : us.length = 4) (hc : ∀ j y, us[j]? = some y → w.cell? (ad.add j) = some y) (h1 : ∀ u ∈ us, u.oneCell' = true) (h63 : n + 1 ≤ maxLen) (hbytes : (n + 1) * 32 ≤ 140737488355328) (hbase : base ≤ w.heap.size)
    (h : ∀ v' w', w'.ownsRow base e 4 v' (n + 1) (xs ++ us) → w.grownBy w' v.ownBlock → ((∃ g cap, v = .slice (some ⟨g, 0, none⟩) n cap ∧ v' = .slice (some ⟨g, 0, none⟩) (n + 1) cap) ∨ (v'.ownBlock = some w.heap.size ∧ Below w.heap.size w w')) → wpList P ops Q rest (a.put o.dst v') w') : wpList P ops Q (o :: rest) a w := by
  refine wpList_plain hgd fun K hK => ?_
  obtain ⟨v', w', hr, h2, h3, h4⟩ := run_append_tell (P := P) w base t o.type e i z ht hi hz hsize hby hzs v n xs hown ad us hus hc h1 h63 hbytes hbase
  unfold Oper.wp execOp
  simp only [ho, resolve, invoke, builtin, Sem.run_bind, Sem.run_pure, Result.andThen_ok, List.map_toArray, List.map_cons, List.map_nil, hs, hx, hr]
  exact hK _ _ (h v' w' h2 h3 h4)
/-- so many sevens -/
def sev (k : Nat) : List Value := svs k (fun _ => ⟨7, 0, 0, 0⟩)
theorem sev_succ (k : Nat) : sev (k + 1) = sev k ++ [.int .u64 7, .int .u64 0, .int .u64 0, .int .u64 0] := svs_succ k _
/-- lists of one's own -/
structure Ar (w0 : World) (B c : Nat) (n : Nat → Nat) (p : Nat → Option Addr) (d : Nat → Nat) (g : Nat → Nat → E4) (w : World) : Prop where
  bel : Below w0.heap.size w0 w
  cB : ∀ i, i < c → w.cell? ⟨B, i, none⟩ = some (.slice (p i) (n i) (d i))
  rows : ∀ i, i < c → w.ownsRow w0.heap.size 28 4 (.slice (p i) (n i) (d i)) (n i) (svs (n i) (g i))
structure Aq (w0 : World) (B c : Nat) (n : Nat → Nat) (p : Nat → Option Addr) (d : Nat → Nat) : Prop where
  c0 : c < 100
  n0 : ∀ i, i < c → n i ≤ 4398046510976
  dj : ∀ i j, i < c → j < c → i ≠ j → Dj (.slice (p i) (n i) (d i)) (.slice (p j) (n j) (d j))
  hB : ∀ i, i < c → ¬ (Value.slice (p i) (n i) (d i)).ownBlock = some B
theorem Ar.congr {w0 : World} {B c : Nat} {n : Nat → Nat} {p : Nat → Option Addr} {d : Nat → Nat} {g f : Nat → Nat → E4} {w : World} (h : Ar w0 B c n p d g w) (e : ∀ i, i < c → ∀ j, j < n i → g i j = f i j) : Ar w0 B c n p d f w :=
  ⟨h.bel, h.cB, fun i hi => by rw [← svs_congr (e i hi)]; exact h.rows i hi⟩
theorem Ar.keep {w0 : World} {B c : Nat} {n : Nat → Nat} {p : Nat → Option Addr} {d : Nat → Nat} {g : Nat → Nat → E4} {w w' : World} (h : Ar w0 B c n p d g w) (hb : Below w.heap.size w w') : Ar w0 B c n p d g w' :=
  ⟨bl_trans h.bel hb, fun i hi => cell_keep (h.cB i hi) hb, fun i hi => own_keepX (h.rows i hi) hb⟩
/-- a row that is none of the lists' grows -/
theorem Ar.other {w0 : World} {B c : Nat} {n : Nat → Nat} {p : Nat → Option Addr} {d : Nat → Nat} {g : Nat → Nat → E4} {w w' : World} {v : Value} (h : Ar w0 B c n p d g w) (hg : w.grownBy w' v.ownBlock) (hv : ∀ k, v.ownBlock = some k → w0.heap.size ≤ k) (hd : ∀ i, i < c → Dj v (.slice (p i) (n i) (d i))) (hB : ¬ v.ownBlock = some B) : Ar w0 B c n p d g w' :=
  ⟨below_transI h.bel (bl_grown hg h.bel.size hv), fun i hi => hg.cell (h.cB i hi) (fun e => hB e.symm), fun i hi => (hd i hi).kept (h.rows i hi) hg⟩
theorem Ar.blk {w0 : World} {B c : Nat} {n : Nat → Nat} {p : Nat → Option Addr} {d : Nat → Nat} {g : Nat → Nat → E4} {w : World} (h : Ar w0 B c n p d g w) {i : Nat} (hi : i < c) (h0 : 0 < n i) : ∃ b, p i = some ⟨b, 0, none⟩ := by
  obtain ⟨b, c', e, _⟩ := own_some4 (h.rows i hi) h0
  simp only [Value.slice.injEq, true_and] at e
  exact ⟨b, e.1⟩
theorem Ar.put {w0 : World} {B c i k b : Nat} {n : Nat → Nat} {p : Nat → Option Addr} {d : Nat → Nat} {g : Nat → Nat → E4} {w : World} (h : Ar w0 B c n p d (gms g i k) w) (A : Aq w0 B c n p d) (hi : i < c) (hk : k < n i) (hp : p i = some ⟨b, 0, none⟩) : Ar w0 B c n p d (gms g i (k + 1)) (setS w b (k * 4) (mks i k)) := by
  have hr := h.rows i hi
  rw [hp] at hr
  obtain ⟨o1, g1⟩ := own_setS hr k hk (mks i k)
  have eb : (Value.slice (p i) (n i) (d i)).ownBlock = some b := by rw [hp]; rfl
  have hb := (hr.lt b rfl).1
  refine ⟨below_transI h.bel (bl_grown g1 h.bel.size (fun x hx => by have := Option.some.inj hx; omega)), fun j hj => g1.cell (h.cB j hj) (fun e => A.hB i hi (by rw [eb]; exact e.symm)), fun j hj => ?_⟩
  by_cases hji : j = i
  · subst hji
    rw [hp]
    rw [svs_congr (g := gms g j (k + 1) j) (f := fun x => if x = k then mks j k else gms g j k j x)]
    · exact o1
    · intro x _
      unfold gms
      by_cases hx : x = k
      · subst hx
        rw [if_pos rfl, if_neg (by omega), if_pos (by omega)]
      · rw [if_neg hx, if_neg (Nat.lt_irrefl j)]
        by_cases hlt : x < k
        · rw [if_pos ⟨rfl, by omega⟩, if_neg (Nat.lt_irrefl j), if_pos ⟨rfl, hlt⟩]
        · rw [if_neg (by omega), if_neg (Nat.lt_irrefl j), if_neg (by omega)]
  · have hd := A.dj i j hi hj (fun e => hji e.symm)
    rw [← eb] at g1
    have := hd.kept (h.rows j hj) g1
    rw [svs_congr (g := gms g i (k + 1) j) (f := gms g i k j)]
    · exact this
    · intro x _
      unfold gms
      by_cases hlt : j < i
      · rw [if_pos hlt, if_pos hlt]
      · rw [if_neg hlt, if_neg hlt, if_neg (by omega), if_neg (by omega)]
/-- the list that is appended to: still the list itself, or one in a block of its own -/
def Mo (B c : Nat) (n : Nat → Nat) (p : Nat → Option Addr) (d : Nat → Nat) (j k : Nat) (v : Value) : Prop :=
  v = .slice (p j) (n j + k) (d j) ∨ ((∀ i, i < c → Dj v (.slice (p i) (n i) (d i))) ∧ ¬ v.ownBlock = some B)
theorem Mo.next {w0 : World} {B c j k : Nat} {n : Nat → Nat} {p : Nat → Option Addr} {d : Nat → Nat} {g : Nat → Nat → E4} {w w' : World} {v v' : Value} {ys us : List Value} (h : Mo B c n p d j k v) (A : Aq w0 B c n p d) (hj : j < c) (hA : Ar w0 B c n p d g w) (hB : B < w.heap.size)
    (ho : w.ownsRow w0.heap.size 28 4 v (n j + k) (svs (n j) (g j) ++ ys)) (ho' : w'.ownsRow w0.heap.size 28 4 v' (n j + k + 1) (svs (n j) (g j) ++ ys ++ us)) (hg : w.grownBy w' v.ownBlock)
    (ht : (∃ g cap, v = .slice (some ⟨g, 0, none⟩) (n j + k) cap ∧ v' = .slice (some ⟨g, 0, none⟩) (n j + k + 1) cap) ∨ (v'.ownBlock = some w.heap.size ∧ Below w.heap.size w w')) :
    Mo B c n p d j (k + 1) v' ∧ Ar w0 B c n p d g w' := by
  have hv : ∀ x, v.ownBlock = some x → w0.heap.size ≤ x := fun x hx => (ho.lt x hx).1
  rcases ht with ⟨b, cap, e1, e2⟩ | ⟨e1, e2⟩
  · rcases h with h | ⟨h1, h2⟩
    · rw [h] at e1
      simp only [Value.slice.injEq, true_and] at e1
      obtain ⟨ep, ed⟩ := e1
      refine ⟨.inl (by rw [e2, ep, ed]; rfl), ?_⟩
      have eb : (Value.slice (p j) (n j) (d j)).ownBlock = v.ownBlock := by rw [h, ep]; rfl
      refine ⟨below_transI hA.bel (bl_grown hg hA.bel.size hv), fun i hi => hg.cell (hA.cB i hi) (fun e => A.hB j hj (by rw [eb]; exact e.symm)), fun i hi => ?_⟩
      by_cases hij : i = j
      · subst hij
        rw [e2, ← ep, ← ed, List.append_assoc] at ho'
        rw [ep] at ho' ⊢
        exact own_front ho' (svs_len _ _) (by omega)
      · have hd := A.dj j i hj hi (fun e => hij e.symm)
        rw [← eb] at hg
        exact hd.kept (hA.rows i hi) hg
    · refine ⟨.inr ⟨fun i hi x hx => h1 i hi x (by rw [e1]; rw [e2] at hx; exact hx), ?_⟩, hA.other hg hv h1 h2⟩
      rw [e2]
      rw [e1] at h2
      exact h2
  · refine ⟨.inr ⟨fun i hi x hx e => ?_, ?_⟩, hA.keep e2⟩
    · have := ((hA.rows i hi).lt x e).2
      rw [e1] at hx
      have := Option.some.inj hx
      omega
    · rw [e1]
      intro e
      have := Option.some.inj e
      omega
theorem Mo.last {w0 : World} {B c j k : Nat} {n : Nat → Nat} {p : Nat → Option Addr} {d : Nat → Nat} {g : Nat → Nat → E4} {w : World} {b cap x y : Nat} {r : E4} (h : Mo B c n p d j (k + 1) (.slice (some ⟨b, 0, none⟩) (n j + (k + 1)) cap)) (A : Aq w0 B c n p d) (hj : j < c) (hA : Ar w0 B c n p d g w)
    {f : Nat → E4} (ho : w.ownsRow w0.heap.size 28 4 (.slice (some ⟨b, 0, none⟩) (n j + (k + 1)) cap) (n j + (k + 1)) (svs (n j + (k + 1)) f)) (hf : ∀ x, x < n j → f x = g j x) : Ar w0 B c n p d g (setS w b ((n j + k) * 4) r) := by
  obtain ⟨o1, g1⟩ := own_setS ho (n j + k) (by omega) r
  have hb := (ho.lt b rfl).1
  rcases h with h | ⟨h1, h2⟩
  · simp only [Value.slice.injEq, true_and] at h
    obtain ⟨ep, ed⟩ := h
    have eb : (Value.slice (p j) (n j) (d j)).ownBlock = some b := by rw [← ep]; rfl
    refine ⟨below_transI hA.bel (bl_grown g1 hA.bel.size (fun x hx => by have := Option.some.inj hx; omega)), fun i hi => g1.cell (hA.cB i hi) (fun e => A.hB j hj (by rw [eb]; exact e.symm)), fun i hi => ?_⟩
    by_cases hij : i = j
    · subst hij
      rw [← ep, ← ed]
      rw [← svs_app (n i) (k + 1)] at o1
      have := own_front o1 (svs_len _ _) (by omega)
      rw [svs_congr (g := g i) (f := fun x => if x = n i + k then r else f x) (fun x hx => by rw [if_neg (by omega), hf x hx])]
      exact this
    · have hd := A.dj j i hj hi (fun e => hij e.symm)
      rw [← eb] at g1
      exact hd.kept (hA.rows i hi) g1
  · exact hA.other (v := .slice (some ⟨b, 0, none⟩) (n j + (k + 1)) cap) g1 (fun x hx => by have : b = x := Option.some.inj hx; omega) h1 h2
/-- the marks, then sevens -/
def m7 (f : Nat → E4) (n : Nat) : Nat → E4 := fun x => if x < n then f x else ⟨7, 0, 0, 0⟩
theorem m7_svs (f : Nat → E4) (n k : Nat) : svs n f ++ sev k = svs (n + k) (m7 f n) := by
  rw [← svs_app n k, svs_congr (g := m7 f n) (f := f) (fun x hx => by unfold m7; rw [if_pos hx])]
  congr 1
  exact svs_congr (fun x hx => by unfold m7; rw [if_neg (by omega)])

set_option maxRecDepth 100000 in
set_option maxHeartbeats 16000000 in
theorem apart_any (w0 w : World) (B c cB : Nat) (n : Nat → Nat) (p : Nat → Option Addr) (d : Nat → Nat) (g : Nat → Nat → E4) (hA : Aq w0 B c n p d) (hW : Ar w0 B c n p d g w) :
    Calls Tryd.prog 11 #[.slice (some ⟨B, 0, none⟩) c cB] w fun e w' => e = .returned (.bool true) ∧ Below w0.heap.size w0 w' := by
  have A3 := hidden hA
  have W0 := hidden (hW.congr (f := gms g 0 0) (fun i _ j _ => (gms_zero g i j).symm))
  have cc0 : (0 : Int) ≤ (c : Int) := by omega
  have cc1 : (c : Int) < 100 := by have := hA.c0; omega
  obtain ⟨i0, hi, hz0, hz1, hz2⟩ := info_parts sinfo
  have HI := hidden hi
  have HZ0 := hidden hz0
  have HZ1 := hidden hz1
  have HZ2 := hidden hz2
  clear hA hW hi hz0 hz1 hz2
  go_enter Tryd.func11, Tryd.ntmps11
  go_wp2_with fail
  go_loopw [3] (fun iv w' => ∃ i : Nat, i ≤ c ∧ iv = .int .i64 i ∧ Hid (Ar w0 B c n p d (gms g i 0) w')) (fun i _ => c - (intOf i).toNat)
  case atStart => exact ⟨0, by omega, rfl, W0⟩
  case round =>
    obtain ⟨i, hi, rfl, hw⟩ := hrel
    clear W0
    by_cases hi3 : i < c
    · have ii0 : (0 : Int) ≤ (i : Int) := by omega
      have ii1 : (i : Int) < (c : Int) := by omega
      have hc9 := A3.out.c0
      have hn9 := A3.out.n0 i hi3
      have wi1 : IntKind.i64.wrap ((i : Int) + 1) = (i : Int) + 1 := IntWalk.i64_in _ (by omega)
      have wi2 : IntKind.i64.wrap (100000 * ((i : Int) + 1)) = 100000 * ((i : Int) + 1) := IntWalk.i64_in _ (by omega)
      go_wp2_with fail
      go_loopw [4] (fun kv w' => ∃ k : Nat, k ≤ n i ∧ kv = .int .i64 k ∧ Hid (Ar w0 B c n p d (gms g i k) w')) (fun k _ => n i - (intOf k).toNat)
      case atStart => exact ⟨0, by omega, rfl, hw⟩
      case round =>
        clear hw
        obtain ⟨k, hk, rfl, hw⟩ := hrel
        have cB := hw.out.cB i hi3
        by_cases hkn : k < n i
        · have kk0 : (0 : Int) ≤ (k : Int) := by omega
          have kk1 : (k : Int) < (n i : Int) := by omega
          obtain ⟨bi, hbi⟩ := hw.out.blk hi3 (by omega)
          have hr0 := hw.out.rows i hi3
          rw [hbi] at hr0 cB
          have hr := own_rlo hr0
          have a0 := hr.c0 k hkn
          have a1 := hr.c1 k hkn
          have a2 := hr.c2 k hkn
          have a3 := hr.c3 k hkn
          simp only [Nat.zero_add] at a0 a1 a2 a3
          have f0 := hr0.frozenAt (k * 4)
          have f1 := hr0.frozenAt (k * 4 + 1)
          have f2 := hr0.frozenAt (k * 4 + 2)
          have f3 := hr0.frozenAt (k * 4 + 3)
          have NX := hidden (hw.out.put A3.out hi3 hkn hbi)
          clear hr0 hbi
          unfold setS mks at NX
          obtain ⟨v, hv⟩ : ∃ v, 100000 * ((i : Int) + 1) + (k : Int) = v := ⟨_, rfl⟩
          rw [hv] at NX
          have wk : IntKind.i64.wrap (100000 * ((i : Int) + 1) + (k : Int)) = v := by rw [hv]; exact IntWalk.i64_in _ (by omega)
          have wk2 : IntKind.u64.wrap v = v := by rw [IntKind.wrap_u64]; omega
          obtain ⟨z, hz⟩ : ∃ z : E4, gms g i k i k = z := ⟨_, rfl⟩
          rw [hz] at a0 a1 a2 a3
          clear hv hz
          have w9 : IntKind.i64.wrap ((k : Int) + 1) = (k : Int) + 1 := IntWalk.i64_in _ (by omega)
          clear hr hw hn9 hc9
          generalize d i = di at *
          go_wp2_with fail
          go_roundw
          case rel => exact ⟨k + 1, by omega, by go_num, NX⟩
          case measure => simp [intOf]; omega
        · have hkk : k = n i := by omega
          subst hkk
          have lq : ¬ (n i : Int) < (n i : Int) := by omega
          have NX := hidden (hw.out.congr (gms_next g c n i))
          clear hw hn9 hc9
          generalize p i = pi at *
          generalize d i = di at *
          generalize n i = ni at *
          go_wp2_with fail
          go_roundw
          case rel => exact ⟨i + 1, by omega, by go_num, NX⟩
          case measure => simp [intOf]; omega
    · have hii : i = c := by omega
      subst hii
      have lq : ¬ (i : Int) < (i : Int) := by omega
      have W1 := hidden (hw.out.congr (f := mks) (fun a ha j _ => gms_all g i a ha j))
      clear hw
      go_wp2_with fail
      clear lq
      go_loopw [5] (fun iv w' => ∃ j : Nat, j ≤ i ∧ iv = .int .i64 j ∧ Hid (Ar w0 B i n p d mks w')) (fun j _ => i - (intOf j).toNat)
      case atStart => exact ⟨0, by omega, rfl, W1⟩
      case round =>
        clear W1
        obtain ⟨j, hj, rfl, hw⟩ := hrel
        by_cases hj3 : j < i
        · have jj0 : (0 : Int) ≤ (j : Int) := by omega
          have jj1 : (j : Int) < (i : Int) := by omega
          have cB := hw.out.cB j hj3
          have OM := hw.out.rows j hj3
          have N9 := hidden (A3.out.n0 j hj3)
          have BL := hidden (World.block_lt_of_cell? wr _ cB)
          have HW := hw
          clear hw
          obtain ⟨nj, hnj⟩ : ∃ x, n j = x := ⟨_, rfl⟩
          obtain ⟨pj, hpj⟩ : ∃ x, p j = x := ⟨_, rfl⟩
          obtain ⟨dj, hdj⟩ : ∃ x, d j = x := ⟨_, rfl⟩
          have O0 : Hid (wr.ownsRow w0.heap.size 28 4 (.slice pj nj dj) (nj + 0) (svs nj (mks j) ++ sev 0)) := hidden (by rw [show sev 0 = [] from rfl, List.append_nil, Nat.add_zero, ← hnj, ← hpj, ← hdj]; exact OM)
          have Q0 : Hid (Mo B i n p d j 0 (.slice pj nj dj)) := hidden (.inl (by rw [hnj, hpj, hdj, Nat.add_zero]))
          have ENJ := hidden hnj
          rw [hnj] at N9 cB
          rw [hpj, hdj] at cB
          clear hnj hpj hdj OM
          generalize wr = ws at *
          go_wp2_with fail
          clear cB
          go_loopw [6, 7] (fun v kv w' => ∃ k : Nat, k ≤ 64 ∧ kv = .int .i64 k ∧ Hid (w'.ownsRow w0.heap.size 28 4 v (nj + k) (svs nj (mks j) ++ sev k)) ∧ Hid (Mo B i n p d j k v) ∧ Hid (Ar w0 B i n p d mks w') ∧ Hid (B < w'.heap.size)) (fun _ k _ => 64 - (intOf k).toNat)
          case atStart => exact ⟨0, by omega, rfl, O0, Q0, HW, BL⟩
          case round =>
            clear O0 Q0 HW BL
            obtain ⟨k, hk, rfl, hox, hmo, hw, hBs⟩ := hrel
            by_cases hk64 : k < 64
            · have kk0 : (0 : Int) ≤ (k : Int) := by omega
              have kk1 : (k : Int) < 64 := by omega
              have t1 : Tryd.prog.underlying 29 = some (.slice 28) := by kernel_rfl
              have a1 := hidden (hox.out.alloc (.cells #[.int .u64 7, .int .u64 0, .int .u64 0, .int .u64 0] 28))
              have a2 := hidden (cells_new wr [.int .u64 7, .int .u64 0, .int .u64 0, .int .u64 0] 28)
              have a3 : Hid (∀ u ∈ [Value.int .u64 7, .int .u64 0, .int .u64 0, .int .u64 0], u.oneCell' = true) := hidden (by simp [Value.oneCell'])
              have a4 : Hid (nj + k + 1 ≤ maxLen) := hidden (by have := N9.out; unfold maxLen; omega)
              have a5 : Hid ((nj + k + 1) * 32 ≤ 140737488355328) := hidden (by have := N9.out; omega)
              have a6 : Hid (w0.heap.size ≤ (wr.alloc (.cells #[.int .u64 7, .int .u64 0, .int .u64 0, .int .u64 0] 28)).heap.size) := hidden (by have := hw.out.bel.size; simp; omega)
              have a7 := hidden (hw.out.keep (bl_alloc wr (.cells #[.int .u64 7, .int .u64 0, .int .u64 0, .int .u64 0] 28)))
              have a8 : Hid (B < (wr.alloc (.cells #[.int .u64 7, .int .u64 0, .int .u64 0, .int .u64 0] 28)).heap.size) := hidden (by have := hBs.out; simp; omega)
              have T1 := hidden t1
              clear t1
              go_wp2_with (first | (at_builtin; refine wpList_append_tell rfl _ _ 29 rfl w0.heap.size 28 i0 (.agg #[.int .u64 0, .int .u64 0, .int .u64 0, .int .u64 0]) T1.out HI.out HZ0.out HZ1.out HZ2.out rfl u6 _ _ (by rfl) a1.out ⟨wr.heap.size, 0, none⟩ [.int .u64 7, .int .u64 0, .int .u64 0, .int .u64 0] rfl rfl a2.out a3.out a4.out a5.out a6.out ?_; intro v' w3 ho3 hg3 ht3; have HO := hidden ho3; have HG := hidden hg3; have HT := hidden ht3; clear ho3 hg3 ht3))
              go_roundw
              case rel =>
                have e := ENJ.out
                subst e
                obtain ⟨q1, q2⟩ := hmo.out.next A3.out hj3 a7.out a8.out a1.out HO.out HG.out HT.out
                exact ⟨k + 1, by omega, by go_num, hidden (by rw [sev_succ, ← List.append_assoc]; exact HO.out), hidden q1, hidden q2, hidden (Nat.lt_of_lt_of_le a8.out HG.out.size)⟩
              case measure => simp [intOf]; omega
            · have hkk : k = 64 := by omega
              subst hkk
              obtain ⟨gg, cap, rfl, hnc⟩ := own_some4 hox.out (by omega)
              have how := hox.out
              rw [m7_svs] at how
              have hrr := own_rlo how
              have nb := N9.out
              have c0 := hrr.c0 (nj + 63) (by omega)
              have c1 := hrr.c1 (nj + 63) (by omega)
              have c2 := hrr.c2 (nj + 63) (by omega)
              have c3 := hrr.c3 (nj + 63) (by omega)
              simp only [Nat.zero_add] at c0 c1 c2 c3
              obtain ⟨y, hy⟩ : ∃ y, m7 (mks j) nj (nj + 63) = y := ⟨_, rfl⟩
              rw [hy] at c0 c1 c2 c3
              have f0 := how.frozenAt ((nj + 63) * 4)
              have f1 := how.frozenAt ((nj + 63) * 4 + 1)
              have f2 := how.frozenAt ((nj + 63) * 4 + 2)
              have f3 := how.frozenAt ((nj + 63) * 4 + 3)
              have NX : Hid (Ar w0 B i n p d mks (setS wr gg ((nj + 63) * 4) ⟨8, 0, 0, 0⟩)) := hidden (by
                have e := ENJ.out
                subst e
                exact Mo.last (k := 63) (x := 0) (y := 0) hmo.out A3.out hj3 hw.out how (fun x hx => by unfold m7; rw [if_pos hx]))
              unfold setS at NX
              have l0 : ((nj + 64 : Nat) : Int) = (nj : Int) + 64 := by omega
              have l1 : IntKind.i64.wrap ((nj : Int) + 64 - 1) = (nj : Int) + 63 := by rw [show (nj : Int) + 64 - 1 = (nj : Int) + 63 by omega]; exact IntWalk.i64_in _ (by omega)
              have l2 : ((nj : Int) + 63).toNat = nj + 63 := by omega
              have l3 : (0 : Int) ≤ (nj : Int) + 63 := by omega
              have l4 : (nj : Int) + 63 < (nj : Int) + 64 := by omega
              clear how hox hmo hw hrr hy nb hnc hBs
              go_wp2_with fail
              go_roundw
              case rel => exact ⟨j + 1, by omega, by go_num, NX⟩
              case measure => simp [intOf]; omega
        · have hjj : j = i := by omega
          subst hjj
          have lq : ¬ (j : Int) < (j : Int) := by omega
          go_wp2_with fail
          clear lq
          go_loopw [8] (fun iv w' => ∃ i : Nat, i ≤ j ∧ iv = .int .i64 i ∧ Hid (Ar w0 B j n p d mks w')) (fun i _ => j - (intOf i).toNat)
          case atStart => exact ⟨0, by omega, rfl, hw⟩
          case round =>
            clear hw
            obtain ⟨i, hi, rfl, hw⟩ := hrel
            by_cases hi3 : i < j
            · have ii0 : (0 : Int) ≤ (i : Int) := by omega
              have ii1 : (i : Int) < (j : Int) := by omega
              have hc9 := A3.out.c0
              have hn9 := A3.out.n0 i hi3
              have wi1 : IntKind.i64.wrap ((i : Int) + 1) = (i : Int) + 1 := IntWalk.i64_in _ (by omega)
              have wi2 : IntKind.i64.wrap (100000 * ((i : Int) + 1)) = 100000 * ((i : Int) + 1) := IntWalk.i64_in _ (by omega)
              go_wp2_with fail
              go_loopw [9] (fun kv w' => ∃ k : Nat, k ≤ n i ∧ kv = .int .i64 k ∧ Hid (Ar w0 B j n p d mks w')) (fun k _ => n i - (intOf k).toNat)
              case atStart => exact ⟨0, by omega, rfl, hw⟩
              case round =>
                clear hw
                obtain ⟨k, hk, rfl, hw⟩ := hrel
                have cB := hw.out.cB i hi3
                by_cases hkn : k < n i
                · have kk0 : (0 : Int) ≤ (k : Int) := by omega
                  have kk1 : (k : Int) < (n i : Int) := by omega
                  obtain ⟨bi, hbi⟩ := hw.out.blk hi3 (by omega)
                  have hr0 := hw.out.rows i hi3
                  rw [hbi] at hr0 cB
                  have hr := own_rlo hr0
                  clear hr0 hbi
                  obtain ⟨v, hv⟩ : ∃ v, 100000 * ((i : Int) + 1) + (k : Int) = v := ⟨_, rfl⟩
                  have a0 : wr.cell? ⟨bi, k * 4, none⟩ = some (.int .u64 v) := by rw [← hv]; have := hr.c0 k hkn; simp only [Nat.zero_add] at this; exact this
                  have a1 : wr.cell? ⟨bi, k * 4 + 1, none⟩ = some (.int .u64 0) := by have := hr.c1 k hkn; simp only [Nat.zero_add] at this; exact this
                  have a2 : wr.cell? ⟨bi, k * 4 + 2, none⟩ = some (.int .u64 0) := by have := hr.c2 k hkn; simp only [Nat.zero_add] at this; exact this
                  have a3 : wr.cell? ⟨bi, k * 4 + 3, none⟩ = some (.int .u64 0) := by have := hr.c3 k hkn; simp only [Nat.zero_add] at this; exact this
                  have qv := fun w => (eq4 ⟨v, 0, 0, 0⟩ ⟨v, 0, 0, 0⟩ w).trans (by rw [E4.same_self] : _ = Result.ok true w)
                  simp only [E4.v] at qv
                  have wk : IntKind.i64.wrap (100000 * ((i : Int) + 1) + (k : Int)) = v := by rw [hv]; exact IntWalk.i64_in _ (by omega)
                  have wk2 : IntKind.u64.wrap v = v := by rw [IntKind.wrap_u64]; omega
                  have w9 : IntKind.i64.wrap ((k : Int) + 1) = (k : Int) + 1 := IntWalk.i64_in _ (by omega)
                  clear hr hn9 hc9 hv
                  generalize d i = di at *
                  go_wp2_with fail
                  go_roundw
                  case rel => exact ⟨k + 1, by omega, by go_num, hw⟩
                  case measure => simp [intOf]; omega
                · have hkk : k = n i := by omega
                  subst hkk
                  have lq : ¬ (n i : Int) < (n i : Int) := by omega
                  clear hn9 hc9
                  generalize p i = pi at *
                  generalize d i = di at *
                  generalize n i = ni at *
                  go_wp2_with fail
                  go_roundw
                  case rel => exact ⟨i + 1, by omega, by go_num, hw⟩
                  case measure => simp [intOf]; omega
            · have hii : i = j := by omega
              subst hii
              have lq : ¬ (i : Int) < (i : Int) := by omega
              go_wp2_with fail
              go_ret
              exact ⟨rfl, hw.out.bel⟩
end Go.Proofs.YtbkiobfjabadeaaDoor
