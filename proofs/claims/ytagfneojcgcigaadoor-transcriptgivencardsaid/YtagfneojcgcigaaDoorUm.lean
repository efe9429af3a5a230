import Derived.Test.YtagfneojcgcigaaDoorUo
import Derived.Test.YtagfneojcgcigaaDoorSrl
namespace Go.Proofs.YtagfneojcgcigaaDoor.Tr
open Go.RowKit
theorem own_src {w : World} {base n c s : Nat} {e : TypeId} {P : Option Addr} {xs : List Value} (h : w.ownsRow base e s (.slice P n c) n xs) : (P = none → n = 0 ∧ c = 0) ∧ ∀ a, P = some a → ∀ j u, xs[j]? = some u → w.cell? (a.add j) = some u := by
  rcases h.2 with ⟨hv, h0⟩ | ⟨g, cap, cur, hv, _⟩
  · simp only [Value.slice.injEq] at hv
    obtain ⟨rfl, rfl, rfl⟩ := hv
    exact ⟨fun _ => ⟨rfl, rfl⟩, fun a ha => (by cases ha)⟩
  · simp only [Value.slice.injEq] at hv
    obtain ⟨rfl, _, rfl⟩ := hv
    exact ⟨fun h => (by cases h), fun a ha => by obtain rfl := Option.some.inj ha; exact h.cells rfl⟩
theorem own_put {w : World} {base g n c : Nat} {e : TypeId} {xs : List Value} (h : w.ownsRow base e 4 (.slice (some ⟨g, 0, none⟩) n c) n xs) (j : Nat) (a b d f : Value) : ∃ ys, ((((w.setCell ⟨g, j, none⟩ a).setCell ⟨g, j + 1, none⟩ b).setCell ⟨g, j + 2, none⟩ d).setCell ⟨g, j + 3, none⟩ f).ownsRow base e 4 (.slice (some ⟨g, 0, none⟩) n c) n ys :=
  ⟨_, ((((h.stored j a).1.stored (j + 1) b).1.stored (j + 2) d).1.stored (j + 3) f).1⟩
theorem own_cell {w : World} {base g n c : Nat} {e : TypeId} {xs : List Value} (h : w.ownsRow base e 4 (.slice (some ⟨g, 0, none⟩) n c) n xs) (j : Nat) (hj : j < n * 4) : ∃ v, w.cell? ⟨g, j, none⟩ = some v := by
  have hl := h.1
  exact ⟨xs[j]'(by omega), by rw [h.cellAt j hj, List.getElem?_eq_getElem]⟩
/-- a box of four cells -/
def Bq (w : World) (b : Nat) (t : TypeId) (x y z v : Value) : Prop := w.heap[b]? = some (.cells #[x, y, z, v] t (0, 0))
theorem Bq.c0 {w : World} {b : Nat} {t : TypeId} {x y z v : Value} (h : Bq w b t x y z v) : w.cell? ⟨b, 0, none⟩ = some x := by
  rw [cell_of_row w b 0 _ t (0, 0) h]; rfl
theorem Bq.c1 {w : World} {b : Nat} {t : TypeId} {x y z v : Value} (h : Bq w b t x y z v) : w.cell? ⟨b, 1, none⟩ = some y := by
  rw [cell_of_row w b 1 _ t (0, 0) h]; rfl
theorem Bq.c2 {w : World} {b : Nat} {t : TypeId} {x y z v : Value} (h : Bq w b t x y z v) : w.cell? ⟨b, 2, none⟩ = some z := by
  rw [cell_of_row w b 2 _ t (0, 0) h]; rfl
theorem Bq.c3 {w : World} {b : Nat} {t : TypeId} {x y z v : Value} (h : Bq w b t x y z v) : w.cell? ⟨b, 3, none⟩ = some v := by
  rw [cell_of_row w b 3 _ t (0, 0) h]; rfl
theorem Bq.lt {w : World} {b : Nat} {t : TypeId} {x y z v : Value} (h : Bq w b t x y z v) : b < w.heap.size := (Array.getElem?_eq_some_iff.1 h).1
theorem Bq.blk {w w' : World} {b : Nat} {t : TypeId} {x y z v : Value} (h : Bq w b t x y z v) (e : w'.heap[b]? = w.heap[b]?) : Bq w' b t x y z v := e.trans h
theorem Bq.keep {w w' : World} {b n : Nat} {t : TypeId} {x y z v : Value} (h : Bq w b t x y z v) (e : Below n w w') (hb : b < n) : Bq w' b t x y z v := h.blk (e.block b hb)
/-- a list of limbs -/
def Lq (w : World) (P : Option Addr) (m : Nat) (g : Nat → E4) : Prop := 0 < m → ∃ b o : Nat, P = some ⟨b, o, none⟩ ∧ Rl w b o m g
theorem Lq.keep {w w' : World} {P : Option Addr} {m : Nat} {g : Nat → E4} (h : Lq w P m g) (hb : Below w.heap.size w w') : Lq w' P m g := fun h0 => by
  obtain ⟨b, o, e, h1⟩ := h h0
  exact ⟨b, o, e, h1.keep hb⟩
set_option maxRecDepth 100000 in
set_option maxHeartbeats 64000000 in
theorem given_law (P0 P1 : Option Addr) (m c0 n c1 : Nat) (g : Nat → E4) (f : Nat → Oq) (w : World) (hT : Go.Proofs.YtagfneojcgcigaaDoor.Tb w) (hok : ∀ k, k < m → (g k).ok) (hL : Lq w P0 m g) (hS : Sc w P1 n f) (hm : m ≤ 4398046510976) (hn : n ≤ 2513169434879) :
    Calls Tryd.prog 3 #[.slice P0 m c0, .slice P1 n c1] w fun e w' => e = .returned (.bool true) ∧ Below w.heap.size w w' := by
  have HT := hidden hT
  have HOK := hidden hok
  have HL := hidden hL
  have HS := hidden hS
  have HM := hidden hm
  have HN := hidden hn
  have HPOS : Hid (0 < w.heap.size) := hidden (by have := World.block_lt_of_cell? w _ hT.1; exact Nat.lt_of_le_of_lt (Nat.zero_le _) this)
  obtain ⟨i0, hi, hz0, hz1, hz2⟩ := info_parts info27
  have HI := hidden hi
  have HZ0 := hidden hz0
  have HZ1 := hidden hz1
  have HZ2 := hidden hz2
  have HU : Hid (Tryd.prog.underlying 24 = some (.slice 27)) := hidden (by kernel_rfl)
  obtain ⟨j0, hj, hy0, hy1, hy2⟩ := info_parts info32
  have JI := hidden hj
  have JZ0 := hidden hy0
  have JZ1 := hidden hy1
  have JZ2 := hidden hy2
  have JU : Hid (Tryd.prog.underlying 23 = some (.slice 32)) := hidden (by kernel_rfl)
  clear hT hok hL hS hm hn hi hz0 hz1 hz2 hj hy0 hy1 hy2
  go_enter Tryd.func3, Tryd.ntmps3
  go_wp2_with fail
  go_loopw [5, 6] (fun v iv w' => ∃ i : Nat, i ≤ m ∧ iv = .int .i64 (i : Int) ∧ Hid (w'.ownsRow w.heap.size 27 4 v i (svs i g)) ∧ Hid (Below w.heap.size w w')) (fun _ i _ => m - (intOf i).toNat)
  case atStart => exact ⟨0, by omega, rfl, hidden (World.ownsRow_nil _ _ _ _), hidden (Below.refl _ _)⟩
  case round =>
    obtain ⟨i, hi, rfl, HO, HB⟩ := hrel
    by_cases hin : i < m
    · obtain ⟨b, o, rfl, hr⟩ := (HL.out.keep HB.out) (by omega)
      have x0 := hr.c0 i hin; have x1 := hr.c1 i hin; have x2 := hr.c2 i hin; have x3 := hr.c3 i hin
      have ii0 : (0 : Int) ≤ (i : Int) := by omega
      have ii1 : (i : Int) < (m : Int) := by omega
      have w9 : IntKind.i64.wrap ((i : Int) + 1) = (i : Int) + 1 := IntWalk.i64_in _ (by have := HM.out; omega)
      have PS := hidden (svs_succ i g)
      generalize g i = z at x0 x1 x2 x3 PS
      clear hr
      go_wp2_with (first | (at_builtin; refine wpList_append_own_at _ rfl _ _ 24 rfl w.heap.size 27 i0 (.agg #[.int .u64 0, .int .u64 0, .int .u64 0, .int .u64 0]) 4 32 HU.out HI.out HZ0.out HZ1.out HZ2.out rfl (by decide) u5 i (svs i g) rfl (HO.out.alloc _) ⟨wr.heap.size, 0, none⟩ 1 1 [.int .u64 z.x0, .int .u64 z.x1, .int .u64 z.x2, .int .u64 z.x3] rfl rfl (cells_new wr _ _) (by simp [Value.oneCell']) (by have := HM.out; unfold maxLen; omega) (by have := HM.out; omega) (by have := HB.out.size; simp; omega) ?_; intro v4 w4 how4 hgr4 hnil4 hat4; have NO := hidden how4; have NB := hidden (below_trans HB.out (below_trans ((bl_alloc wr _).mono HB.out.size) (below_grown (base := w.heap.size) hgr4 (by have := HB.out.size; simp; omega) (fun j hj => (HO.out.lt j hj).1)))); clear how4 hgr4 hnil4 hat4))
      go_roundw
      case rel => exact ⟨i + 1, by omega, by go_num, hidden (by rw [PS.out]; exact NO.out), NB⟩
      case measure => simp [intOf]; omega
    · have him : m = i := by omega
      subst him
      have lq : ¬ (m : Int) < (m : Int) := by omega
      obtain ⟨Pi, ci, rfl, -⟩ := own_shape4 HO.out
      have GV := hidden (givens_any Pi ci m g wr (own_src HO.out).1 (own_src HO.out).2 (by have := HM.out; omega))
      have HOW := hidden (fun j hj => (HO.out.lt j hj).2)
      go_upto_region 9 with (first | (go_at_call 4; refine GV.out.mono ?_; rintro e w1 ⟨s, Q, d, rfl, hx, hd, hl, hq, hs, hb⟩; have HX := hidden hx; have HD := hidden hd; have HLF := hidden hl; have HQ := hidden hq; have HSS := hidden hs; replace HO := hidden (own_stay HO.out hb); have HB1 := hidden (bl_trans HB.out hb); have HSZ := hidden HB.out.size; clear hx hd hl hq hs hb))
      have HO2 : Hid (∃ xs, w1.ownsRow w.heap.size 27 4 (.slice Pi m ci) m xs) := hidden ⟨_, HO.out⟩
      clear HO HB GV lq
      go_wp2_with fail
      go_loopw [8] (fun iv w' => ∃ i : Nat, i ≤ m ∧ iv = .int .i64 (i : Int) ∧ Hid (∃ xs, w'.ownsRow w.heap.size 27 4 (.slice Pi m ci) m xs) ∧ Hid (B3 w' s 54 (.slice Q m d) (.slice none 0 0) (.bool true)) ∧ Hid (Lf w' s Q m g) ∧ Hid (Below w.heap.size w w')) (fun i _ => m - (intOf i).toNat)
      case atStart => exact ⟨0, by omega, rfl, HO2, HX, HLF, HB1⟩
      case round =>
        clear HO2 HX HLF HB1
        rename World => wv
        obtain ⟨i, hi, rfl, HO, HX, HLF, HB⟩ := hrel
        by_cases hin : i < m
        · obtain ⟨xs, hxs⟩ := HO.out
          obtain ⟨gi, ci', hv, -⟩ := own_some4 hxs (by omega)
          simp only [Value.slice.injEq] at hv
          obtain ⟨rfl, -, rfl⟩ := hv
          obtain ⟨a0, x0⟩ := own_cell hxs (i * 4) (by omega)
          obtain ⟨a1, x1⟩ := own_cell hxs (i * 4 + 1) (by omega)
          obtain ⟨a2, x2⟩ := own_cell hxs (i * 4 + 2) (by omega)
          obtain ⟨a3, x3⟩ := own_cell hxs (i * 4 + 3) (by omega)
          have f0 := hxs.frozenAt (i * 4); have f1 := hxs.frozenAt (i * 4 + 1); have f2 := hxs.frozenAt (i * 4 + 2); have f3 := hxs.frozenAt (i * 4 + 3)
          have ii0 : (0 : Int) ≤ (i : Int) := by omega
          have ii1 : (i : Int) < (m : Int) := by omega
          have w9 : IntKind.i64.wrap ((i : Int) + 1) = (i : Int) + 1 := IntWalk.i64_in _ (by have := HM.out; omega)
          have hgi := HOW.out gi rfl
          have hbl : ∀ k, k ≠ gi → ((((wv.setCell ⟨gi, i * 4, none⟩ (.int .u64 9)).setCell ⟨gi, i * 4 + 1, none⟩ (.int .u64 9)).setCell ⟨gi, i * 4 + 2, none⟩ (.int .u64 9)).setCell ⟨gi, i * 4 + 3, none⟩ (.int .u64 9)).heap[k]? = wv.heap[k]? := fun k hk => by rw [set_ne _ _ _ _ _ hk, set_ne _ _ _ _ _ hk, set_ne _ _ _ _ _ hk, set_ne _ _ _ _ _ hk]
          have NO := hidden (own_put hxs (i * 4) (.int .u64 9) (.int .u64 9) (.int .u64 9) (.int .u64 9))
          have NX := hidden (HX.out.blk (hbl s (by have := HSS.out; omega)))
          have NL := hidden (HLF.out.keep1 (fun a ha _ => hbl a.block (by have := HQ.out a ha; omega)))
          have hb1 := (hxs.lt gi rfl).1
          have NB := hidden ((((HB.out.setCell (p := ⟨gi, i * 4, none⟩) hb1 (.int .u64 9)).setCell (p := ⟨gi, i * 4 + 1, none⟩) hb1 (.int .u64 9)).setCell (p := ⟨gi, i * 4 + 2, none⟩) hb1 (.int .u64 9)).setCell (p := ⟨gi, i * 4 + 3, none⟩) hb1 (.int .u64 9))
          clear hbl hxs hgi hb1
          go_wp2_with fail
          go_roundw
          case rel => exact ⟨i + 1, by omega, by go_num, NO, NX, NL, NB⟩
          case measure => simp [intOf]; omega
        · have him : m = i := by omega
          subst him
          have lq : ¬ (m : Int) < (m : Int) := by omega
          have LS : Hid (Ls wv (s + 1) s Q d m g (.slice none 0 0) (.slice none 0 0) [] []) := hidden ⟨HX.out, HD.out, HLF.out, ⟨World.ownsRow_nil _ _ _ _, fun x hx => (by cases hx), fun x hx => (by cases hx)⟩, World.ownsRow_nil _ _ _ _, Or.inl rfl, fun x hx => (by cases hx), rfl, by omega, HX.out.lt⟩
          have HSP : Hid (w.heap.size ≤ s ∧ 0 < s) := hidden (by have := HSS.out; have := HSZ.out; have := HPOS.out; omega)
          clear HO HX HLF HD HOW HSS HSZ HQ
          go_wp2_with fail
          clear lq
          go_loopw [9, 10, 11] (fun nv vW iv w' => ∃ (i nx : Nat) (PL : Option Addr) (d : Nat) (vH : Value) (es : List (En × Em)) (rs : List Oq), i ≤ n ∧ iv = .int .i64 (i : Int) ∧ nx ≤ m ∧ nv = .int .i64 (nx : Int) ∧ Hid (Ls w' (s + 1) s PL d (m - nx) (fun k => g (nx + k)) vH vW es rs) ∧ Hid (rs.length ≤ i ∧ ∀ o ∈ rs, ∃ t, t < n ∧ o = f t) ∧ Hid (Below w.heap.size w w')) (fun _ _ i _ => n - (intOf i).toNat)
          case atStart => exact ⟨0, 0, Q, d, .slice none 0 0, [], [], by omega, rfl, by omega, rfl, hidden (by simp only [Nat.zero_add, Nat.sub_zero]; exact LS.out), hidden ⟨Nat.le_refl _, fun o ho => (by cases ho)⟩, HB⟩
          case round =>
            clear LS HB
            rename World => wr
            obtain ⟨i, nx, PL, d, vH, es, rs, hi, rfl, hnx, rfl, LS, HRS, HB⟩ := hrel
            by_cases hin : i < n
            · obtain ⟨b1, o1, rfl, ho4⟩ := (HS.out.keep HB.out).lie (by omega)
              have x0 := ho4.c0 i hin; have x1 := ho4.c1 i hin; have x2 := ho4.c2 i hin; have x3 := ho4.c3 i hin
              have FP := hidden ((HS.out.pt i hin).keep HB.out)
              have FF := hidden (HS.out.fr i hin)
              have ii0 : (0 : Int) ≤ (i : Int) := by omega
              have ii1 : (i : Int) < (n : Int) := by omega
              have w9 : IntKind.i64.wrap ((i : Int) + 1) = (i : Int) + 1 := IntWalk.i64_in _ (by have := HN.out; omega)
              obtain ⟨F, hF⟩ : ∃ F, F = f i := ⟨_, rfl⟩
              rw [← hF] at x0 x1 x2 x3 FP FF
              have HF := hidden hF
              have BO : Hid (Bq (wr.alloc (.cells #[.int .i64 F.k, .int .i64 F.a, .string (sb F.l), .slice F.m.P F.ps.length F.m.c] 32)) wr.heap.size 32 (.int .i64 F.k) (.int .i64 F.a) (.string (sb F.l)) (.slice F.m.P F.ps.length F.m.c)) := hidden (heap_alloc_new wr _)
              have L2 := hidden (LS.out.stay (bl_alloc wr (.cells #[.int .i64 F.k, .int .i64 F.a, .string (sb F.l), .slice F.m.P F.ps.length F.m.c] 32)))
              have B2 := hidden (bl_trans HB.out (bl_alloc wr (.cells #[.int .i64 F.k, .int .i64 F.a, .string (sb F.l), .slice F.m.P F.ps.length F.m.c] 32)))
              have P2 := hidden (FP.out.keep (bl_alloc wr (.cells #[.int .i64 F.k, .int .i64 F.a, .string (sb F.l), .slice F.m.P F.ps.length F.m.c] 32)))
              have HTF : Hid (s < wr.heap.size ∧ ∀ k, vH.ownBlock = some k → k < wr.heap.size) := hidden ⟨LS.out.x.lt, fun k hk => (LS.out.h.list.lt k hk).2⟩
              clear ho4 hF
              go_upto_region 19 with fail
              clear x0 x1 x2 x3 FP LS HB
              generalize wr.alloc (.cells #[.int .i64 F.k, .int .i64 F.a, .string (sb F.l), .slice F.m.P F.ps.length F.m.c] 32) = w2 at BO L2 B2 P2 ⊢
              obtain ⟨T, hT⟩ : ∃ T, wr.heap.size = T := ⟨_, rfl⟩
              rw [hT] at BO HTF
              rw [hT]
              clear hT
              have y0 := BO.out.c0
              by_cases k1 : F.k = 1
              · go_upto_region 21 with fail
                clear y0
                have y3 := BO.out.c3
                have hrl : rs.length + 1 ≤ 2513169434879 := by have := HRS.out.1; have := HN.out; omega
                have hel : es.length = rs.length := by have h1 := congrArg List.length L2.out.en; simpa using h1
                have HRL := hidden hrl
                have HEL : Hid (es.length ≤ 2513169434879) := hidden (by omega)
                have HEN : Hid ((⟨false, F.l, F.ps⟩ : En) = F.en) := hidden (by unfold Oq.en; rw [if_neg (by omega), k1]; rfl)
                clear k1 hrl hel
                have HC := hidden (hand_any F.ps F.m.P F.m.c F.m.q F.m.cc w2 P2.out FF.out)
                go_upto_region 22 with (first | (go_at_call 5; refine HC.out.mono ?_; rintro e w3 ⟨vF, vG, fm, cm, fb, cp, rfl, hH, hM, hfm, hb⟩; have HFM : Hid (w2.heap.size ≤ fm ∧ fm < w3.heap.size) := hidden ⟨hfm, by_lt hM (by decide)⟩; obtain ⟨PF, cF, rfl⟩ := own_shape hH.full; obtain ⟨gH, cH, rfl, hcH⟩ := own_some hH.head (Nat.succ_pos _); have HH := hidden hH; have HMM := hidden hM; have HCH : Hid (F.ps.length + 1 ≤ cH) := hidden hcH; have HB3 := hidden hb; clear hH hM hfm hb hcH))
                clear y3 HC
                have HX4 : Hid (Tr.B2 (w3.alloc (.cells #[.slice PF F.ps.length cF, .slice (some ⟨gH, 0, none⟩) (F.ps.length + 1) cH] 34)) w3.heap.size 34 (.slice PF F.ps.length cF) (.slice (some ⟨gH, 0, none⟩) (F.ps.length + 1) cH)) := hidden (heap_alloc_new w3 _)
                have HH4 : Hid (Hd (w3.alloc (.cells #[.slice PF F.ps.length cF, .slice (some ⟨gH, 0, none⟩) (F.ps.length + 1) cH] 34)) w2.heap.size (.slice PF F.ps.length cF) (.slice (some ⟨gH, 0, none⟩) (F.ps.length + 1) cH) F.ps.length F.ps.length F.ps.length [.slice (some ⟨fm, 0, none⟩) 8 cm] (fun i => (F.ps.getD i []).length) (fun i => F.ps.getD i [] ++ mk8) fb cp) := hidden (HH.out.stay (bl_alloc w3 (.cells #[.slice PF F.ps.length cF, .slice (some ⟨gH, 0, none⟩) (F.ps.length + 1) cH] 34)))
                have HM4 := hidden (HMM.out.keep (bl_alloc w3 (.cells #[.slice PF F.ps.length cF, .slice (some ⟨gH, 0, none⟩) (F.ps.length + 1) cH] 34)))
                have HB4 := hidden (bl_trans HB3.out (bl_alloc w3 (.cells #[.slice PF F.ps.length cF, .slice (some ⟨gH, 0, none⟩) (F.ps.length + 1) cH] 34)))
                have HGT : Hid (w2.heap.size ≤ gH ∧ gH < w3.heap.size ∧ ∀ t, t < F.ps.length → w2.heap.size ≤ fb t ∧ fb t < w3.heap.size) := hidden ⟨(HH.out.head.lt gH rfl).1, (HH.out.head.lt gH rfl).2, fun t ht => (HH.out.row t ht).lt (fb t) rfl⟩
                have HZ4 : Hid (w3.heap.size < (w3.alloc (.cells #[.slice PF F.ps.length cF, .slice (some ⟨gH, 0, none⟩) (F.ps.length + 1) cH] 34)).heap.size) := hidden (by rw [World.size_alloc]; omega)
                clear HH HMM HB3
                generalize w3.alloc (.cells #[.slice PF F.ps.length cF, .slice (some ⟨gH, 0, none⟩) (F.ps.length + 1) cH] 34) = w4 at HX4 HH4 HM4 HB4 HZ4 ⊢
                obtain ⟨H0, hH0⟩ : ∃ H0, w3.heap.size = H0 := ⟨_, rfl⟩
                rw [hH0] at HX4 HGT HZ4 HFM
                rw [hH0]
                clear hH0
                have z0 : w4.drew.cell? ⟨H0, 0, none⟩ = some (.slice PF F.ps.length cF) := HX4.out.c0
                have z1 : w4.drew.cell? ⟨H0, 1, none⟩ = some (.slice (some ⟨gH, 0, none⟩) (F.ps.length + 1) cH) := HX4.out.c1
                have zl : w4.drew.cell? ⟨T, 2, none⟩ = some (.string (sb F.l)) := (BO.out.keep HB4.out BO.out.lt).c2
                go_cut [69] (fun _ wx => ∃ (w5 : World) (vn : Value) (xm : Em), Below w4.heap.size w4 w5 ∧ B3 wx s 54 (.slice PL (m - nx) d) vn (.bool true) ∧ Hr wx (s + 1) vn (es ++ [(⟨false, F.l, F.ps⟩, xm)]) ∧ PtIn (fun k => w5.heap.size ≤ k) xm.P F.ps xm.q ∧ (vn.ownBlock = vH.ownBlock ∨ ∃ g, vn.ownBlock = some g ∧ w5.heap.size ≤ g) ∧ Bt (fun k => k = s ∨ vH.ownBlock = some k) w5 wx)
                case first =>
                  go_region_law (first | (go_simp; go_at_call 7; refine (given_any PF F.ps.length cF gH cH _ HCH.out).mono ?_; rintro e w5 ⟨rfl, hb⟩; have B5 : Hid (Below w4.heap.size w4 w5) := hidden (bl_trans (drew_blW w4) hb); have zm : w5.cell? ⟨T, 2, none⟩ = some (.string (sb F.l)) := ((BO.out.keep HB4.out BO.out.lt).keep B5.out (BO.out.keep HB4.out BO.out.lt).lt).c2; have L5 := hidden (L2.out.stay (bl_trans HB4.out B5.out)); have PT5 := hidden ((HH4.out.stay B5.out).pt rfl rfl (fun _ _ => rfl) (fun _ _ => rfl)); clear hb) | (go_simp; go_at_call 6; refine (absorb_any s (s + 1) (.slice PL (m - nx) d) vH es F.l F.ps (some ⟨gH, 0, none⟩) cH (fun i => some ⟨fb i, 0, none⟩) cp w5 L5.out.x L5.out.sl L5.out.bz L5.out.h HEL.out PT5.out FF.out).mono ?_; rintro e w6 ⟨vn, xm, rfl, hx, hh, hp, hv, ht⟩; have RX := hidden hx; have RH := hidden hh; have RP := hidden hp; have RV := hidden hv; have RT := hidden ht; clear hx hh hp hv ht))
                  all_goals
                    clear z0 z1 zl zm
                    go_wp2_with fail
                    go_meet
                    exact ⟨w5, vn, xm, B5.out, RX.out, RH.out, RP.out, RV.out, RT.out⟩
                case rest =>
                obtain ⟨w5, vn, xm, h5, hx, hh, hp, hv, ht⟩ := hcut
                have RX := hidden hx
                have RH := hidden hh
                have RV := hidden hv
                have RT5 := hidden ht
                have R5 := hidden h5
                have RP5 := hidden hp
                have RP : Hid (PtIn (fun k => w2.heap.size ≤ k) xm.P F.ps xm.q) := hidden (hp.mono (fun k hk => by have := HB4.out.size; have := h5.size; omega))
                have RV2 : Hid (vn.ownBlock = vH.ownBlock ∨ ∃ g, vn.ownBlock = some g ∧ w2.heap.size ≤ g) := hidden (by
                  rcases hv with h | ⟨j, hj, hz⟩
                  · exact Or.inl h
                  · exact Or.inr ⟨j, hj, by have := HB4.out.size; have := h5.size; omega⟩)
                have RT : Hid (Bt (fun k => k = s ∨ vH.ownBlock = some k) w2 wc) := hidden (((Bt.of HB4.out).trans (Bt.of h5)).trans ht)
                have HLO : Hid (∀ k, (k = s ∨ vH.ownBlock = some k) → k < T ∧ k < w2.heap.size) := hidden (fun k hk => by
                  rcases hk with hk | hk
                  · have := HTF.out.1; have := BO.out.lt; omega
                  · have := HTF.out.2 k hk; have := BO.out.lt; omega)
                have KK : Hid (∀ k, T ≤ k → k < w4.heap.size → wc.heap[k]? = w4.heap[k]?) := hidden (fun k h1 h2 => (ht.block k (by have := h5.size; omega) (fun e => by have := (HLO.out k e).1; omega)).trans (h5.block k h2))
                have BO6 := hidden ((BO.out.keep HB4.out BO.out.lt).blk (KK.out T (Nat.le_refl _) (BO.out.keep HB4.out BO.out.lt).lt))
                have HX6 := hidden (HX4.out.blk (KK.out H0 (by have := BO.out.lt; have := HGT.out.1; have := HGT.out.2.1; omega) HX4.out.lt))
                have HH6 := hidden (HH4.out.keep (w' := wc) (fun k h1 h2 => KK.out k (by have := BO.out.lt; omega) h2))
                have HM6 := hidden (by_move HM4.out (w' := wc) (KK.out fm (by have := BO.out.lt; have := HFM.out; omega) (by have := HFM.out; have := HZ4.out; omega)))
                have HB6 : Hid (Below w.heap.size w wc) := hidden (below_trans B2.out (RT.out.below B2.out.size (fun k hk => by have := HSP.out.1; rcases hk with hk | hk; omega; (have := (L2.out.h.list.lt k hk).1; omega))))
                have P6 : Hid (Pt wc F.m.P F.ps F.m.q F.m.cc) := hidden (by rw [HF.out]; exact (HS.out.pt i hin).keep HB6.out)
                have S6 : Hid (w4.heap.size ≤ wc.heap.size ∧ w4.heap.size ≤ w5.heap.size) := hidden ⟨by have := ht.size; have := h5.size; omega, h5.size⟩
                clear hx hh hp hv ht h5 z0 z1 zl HX4 HH4 HM4 KK
                have z0 := HX6.out.c0; have z1 := HX6.out.c1; have z3 := BO6.out.c3
                go_upto_region 25 with (first | (go_at_call 8; refine (left_any F.ps F.m.P F.m.c F.m.q F.m.cc wc P6.out FF.out w2.heap.size PF cF gH cH fm cm fb cp HH6.out HM6.out).mono ?_; rintro e w7 ⟨rfl, hb⟩; have B7 := hidden hb; clear hb))
                clear z0 z1 z3
                have HX7 := hidden (HX6.out.keep B7.out HX6.out.lt)
                have z0 := HX7.out.c0; have z1 := HX7.out.c1
                go_upto_region 26 with (first | (go_at_call 7; refine (given_any PF F.ps.length cF gH cH _ HCH.out).mono ?_; rintro e w8 ⟨rfl, hb⟩; have B8 := hidden (bl_trans B7.out hb); have HH8 := hidden (HH6.out.stay (bl_trans B7.out hb)); clear hb) | (go_at_call 9; refine (spoil_any (fun x => x = gH ∨ ∃ t, t < F.ps.length ∧ x = fb t) (some ⟨gH, 0, none⟩) gH F.ps.length cH (fun i => (F.ps.getD i []).length) cp (fun i => some ⟨fb i, 0, none⟩) _ (fun _ => rfl) (fun _ => Or.inl rfl) (HH8.out.sp rfl (fun i hi => getD_len FF.out i hi) (fun t ht => Or.inr ⟨t, ht, rfl⟩)) (len_frl FF.out)).mono ?_; rintro e w9 ⟨rfl, hbt⟩; have T9 := hidden hbt; clear hbt))
                clear z0 z1
                have SG : Hid (∀ k, (k = gH ∨ ∃ t, t < F.ps.length ∧ k = fb t) → w2.heap.size ≤ k ∧ k < w4.heap.size) := hidden (fun k hk => by
                  have h4 := HZ4.out
                  rcases hk with hk | ⟨t, ht, hk⟩
                  · have := HGT.out.1; have := HGT.out.2.1; omega
                  · have := HGT.out.2.2 t ht; omega)
                have K9 : Hid (∀ k, k < wc.heap.size → ¬ (k = gH ∨ ∃ t, t < F.ps.length ∧ k = fb t) → w9.heap[k]? = wc.heap[k]?) := hidden (fun k hk hn => (T9.out.block k (by have := B8.out.size; omega) hn).trans (B8.out.block k hk))
                have Z9 : Hid (wc.heap.size ≤ w9.heap.size) := hidden (Nat.le_trans B8.out.size T9.out.size)
                have BO9 := hidden (BO6.out.blk (K9.out T BO6.out.lt (fun e => by have := (SG.out T e).1; have := BO.out.lt; omega)))
                have VQ := hidden (L2.out.vW RT.out (w2 := w9) (fun k hk => K9.out k (by have := RT.out.size; omega) (fun e => by have := (SG.out k e).1; omega)))
                have HB9 : Hid (Below w.heap.size w w9) := hidden (below_trans HB6.out (below_trans (B8.out.mono HB6.out.size) (T9.out.below (by have := HB6.out.size; have := B8.out.size; omega) (fun k hk => by have := (SG.out k hk).1; have := B2.out.size; omega))))
                have HSZ9 : Hid (s + 1 ≤ w9.heap.size) := hidden (by have := Z9.out; have := RX.out.lt; omega)
                have t0 := BO9.out.c0; have t1 := BO9.out.c1; have t2 := BO9.out.c2; have t3 := BO9.out.c3
                go_wp2_with (first | (at_builtin; refine wpList_append_own_at _ rfl _ _ 23 rfl (s + 1) 32 j0 (.agg #[.int .i64 0, .int .i64 0, .string .empty, .slice none 0 0]) 4 56 JU.out JI.out JZ0.out JZ1.out JZ2.out rfl (by decide) u10 rs.length (opc rs) rfl (VQ.out.alloc _) ⟨w9.heap.size, 0, none⟩ 1 1 [.int .i64 F.k, .int .i64 F.a, .string (sb F.l), .slice F.m.P F.ps.length F.m.c] rfl rfl (cells_new w9 _ _) (by simp [Value.oneCell']) (by have := HRL.out; unfold maxLen; omega) (by have := HRL.out; omega) (by have := HSZ9.out; simp; omega) ?_; intro vm wA how9 hgr9 hnil9 hat9))
                have NLX := hidden (L2.out.said (o := F) RX.out L2.out.md (L2.out.l.keep (w' := wc) (fun k hk => RT.out.block k (by have := L2.out.x.lt; omega) (fun e => by rcases e with e | e; omega; (have := (L2.out.h.list.lt k e).1; omega)))) RH.out RP.out RV2.out RT.out HEN.out Z9.out (fun k hk => by
                  by_cases e : k = gH ∨ ∃ t, t < F.ps.length ∧ k = fb t
                  · refine Or.inr ⟨(SG.out k e).1, RP5.out.mono (fun j hj => by have := (SG.out k e).2; have := S6.out.2; omega), fun h => ?_⟩
                    rcases RV.out with h1 | ⟨j, h1, h2⟩
                    · have := (HLO.out k (Or.inr (h1.symm.trans h))).2
                      have := (SG.out k e).1
                      omega
                    · have h3 := Option.some.inj (h1.symm.trans h)
                      have := (SG.out k e).2
                      have := S6.out.2
                      omega
                  · exact Or.inl (K9.out k hk e)) hgr9 how9 hat9)
                have NB := hidden (below_trans HB9.out (below_trans ((bl_alloc w9 _).mono HB9.out.size) (below_grown (base := w.heap.size) hgr9 (by have := HB9.out.size; simp; omega) (fun j hj => by have := (VQ.out.lt j hj).1; have := HSP.out.1; omega))))
                have NR : Hid ((rs ++ [F]).length ≤ i + 1 ∧ ∀ o ∈ rs ++ [F], ∃ t, t < n ∧ o = f t) := hidden ⟨by rw [List.length_append]; have := HRS.out.1; simp; omega, fun o ho => by
                  rcases List.mem_append.1 ho with ho | ho
                  · exact HRS.out.2 o ho
                  · simp only [List.mem_singleton] at ho
                    exact ⟨i, hin, ho.trans HF.out⟩⟩
                go_roundw
                case rel => exact ⟨i + 1, nx, _, _, _, _, _, by omega, by go_num, hnx, rfl, NLX, NR, NB⟩
                case measure => simp [intOf]; omega
              · by_cases k2 : F.k = 2
                · go_upto_region 28 with fail
                  clear y0
                  have y2 := BO.out.c2
                  have hrl : rs.length + 1 ≤ 2513169434879 := by have := HRS.out.1; have := HN.out; omega
                  have hel : es.length = rs.length := by have h1 := congrArg List.length L2.out.en; simpa using h1
                  have HRL := hidden hrl
                  have HEN : Hid ((⟨true, F.l, []⟩ : En) = F.en) := hidden (by unfold Oq.en; rw [if_pos k2, k2]; rfl)
                  obtain ⟨zz, hzz⟩ : ∃ zz : E4, zz = if m - nx = 0 then ⟨0, 0, 0, 0⟩ else lst (g (nx + 0)).n := ⟨_, rfl⟩
                  obtain ⟨ee, hee⟩ : ∃ ee : Int, ee = if m - nx = 0 then 5 else if (g (nx + 0)).n % Sm.L = 0 then 4 else 0 := ⟨_, rfl⟩
                  have DR : Hid (Calls Tryd.prog 10 #[.pointer (some ⟨s, 0, none⟩), .string (sb F.l)] w2 fun e w' => DrawR w2 (s + 1) s vH es F.l zz ee (m - nx - 1) (fun k => g (nx + (k + 1))) e w') := hidden (by
                    rw [hzz, hee]
                    exact draw_any s (s + 1) PL (m - nx) d (fun k => g (nx + k)) vH es F.l w2 (HT.out.keep B2.out) (fun k hk => HOK.out (nx + k) (by omega)) L2.out.x L2.out.md L2.out.l L2.out.sl L2.out.bz L2.out.h (by omega) HSP.out.2)
                  have HZZ := hidden hzz
                  have HEE := hidden hee
                  clear hzz hee hrl hel k2 k1
                  go_upto_region 29 with (first | (go_at_call 10; refine DR.out.mono ?_; rintro e w3 ⟨vn, xm, PL', d', rfl, hx, hd, hl, hh, hv, ht⟩; have HX3 := hidden hx; have HD3 := hidden hd; have HL3 := hidden hl; have HH3 := hidden hh; have HV3 := hidden hv; have HT3 := hidden ht; clear hx hd hl hh hv ht; simp only [E4.v]))
                  clear DR y2
                  go_upto_region 31 with fail
                  have X14 : Hid (B4 ((w3.alloc (.cells #[.int .u64 zz.x0, .int .u64 zz.x1, .int .u64 zz.x2, .int .u64 zz.x3] 27)).alloc (.cells #[.int .u64 0, .int .u64 0, .int .u64 0, .int .u64 0] 43)) w3.heap.size 27 zz) := hidden ((heap_alloc_old _ _ (by simp)).trans (heap_alloc_new w3 _))
                  have X16 : Hid (B4 ((w3.alloc (.cells #[.int .u64 zz.x0, .int .u64 zz.x1, .int .u64 zz.x2, .int .u64 zz.x3] 27)).alloc (.cells #[.int .u64 0, .int .u64 0, .int .u64 0, .int .u64 0] 43)) (w3.heap.size + 1) 43 ⟨0, 0, 0, 0⟩) := hidden (by
                    have := heap_alloc_new (w3.alloc (.cells #[.int .u64 zz.x0, .int .u64 zz.x1, .int .u64 zz.x2, .int .u64 zz.x3] 27)) (.cells #[.int .u64 0, .int .u64 0, .int .u64 0, .int .u64 0] 43)
                    rw [World.size_alloc] at this
                    exact this)
                  have BW5 := hidden (bl_trans (bl_alloc w3 (.cells #[.int .u64 zz.x0, .int .u64 zz.x1, .int .u64 zz.x2, .int .u64 zz.x3] 27)) (bl_alloc (w3.alloc (.cells #[.int .u64 zz.x0, .int .u64 zz.x1, .int .u64 zz.x2, .int .u64 zz.x3] 27)) (.cells #[.int .u64 0, .int .u64 0, .int .u64 0, .int .u64 0] 43)))
                  have HZW : Hid (w3.heap.size ≤ ((w3.alloc (.cells #[.int .u64 zz.x0, .int .u64 zz.x1, .int .u64 zz.x2, .int .u64 zz.x3] 27)).alloc (.cells #[.int .u64 0, .int .u64 0, .int .u64 0, .int .u64 0] 43)).heap.size) := hidden BW5.out.size
                  have KB : Hid (∀ k, k < w3.heap.size → ((w3.alloc (.cells #[.int .u64 zz.x0, .int .u64 zz.x1, .int .u64 zz.x2, .int .u64 zz.x3] 27)).alloc (.cells #[.int .u64 0, .int .u64 0, .int .u64 0, .int .u64 0] 43)).heap[k]? = w3.heap[k]?) := hidden (fun k hk => BW5.out.block k hk)
                  have BO3 := hidden (BO.out.blk (HT3.out.block T BO.out.lt (fun e => by rcases e with e | e; (have := HTF.out.1; omega); (have := HTF.out.2 T e; omega))))
                  have HB3 : Hid (Below w.heap.size w w3) := hidden (below_trans B2.out (HT3.out.below B2.out.size (fun k hk => by have := HSP.out.1; rcases hk with hk | hk; omega; (have := (L2.out.h.list.lt k hk).1; omega))))
                  have HBn := hidden (bl_trans HB3.out BW5.out)
                  clear BW5
                  generalize ((w3.alloc (.cells #[.int .u64 zz.x0, .int .u64 zz.x1, .int .u64 zz.x2, .int .u64 zz.x3] 27)).alloc (.cells #[.int .u64 0, .int .u64 0, .int .u64 0, .int .u64 0] 43)) = w5 at X14 X16 HZW KB HBn ⊢
                  obtain ⟨A, hA⟩ : ∃ A, w3.heap.size = A := ⟨_, rfl⟩
                  have HA := hidden hA
                  rw [hA] at X14 X16
                  rw [hA]
                  clear hA
                  by_cases hnm : nx < m
                  · obtain ⟨b0, o0, rfl, hr0⟩ := (HL.out.keep HBn.out) (by omega)
                    have x0 := hr0.c0 nx hnm; have x1 := hr0.c1 nx hnm; have x2 := hr0.c2 nx hnm; have x3 := hr0.c3 nx hnm
                    have n0 : (0 : Int) ≤ (nx : Int) := by omega
                    have n1 : (nx : Int) < (m : Int) := by omega
                    have n9 : IntKind.i64.wrap ((nx : Int) + 1) = (nx : Int) + 1 := IntWalk.i64_in _ (by have := HM.out; omega)
                    have RL := hidden (rleast_any (g nx) w5 (HOK.out nx hnm))
                    have HZ1' : Hid (zz = lst (g nx).n) := hidden (by rw [HZZ.out, if_neg (by omega)]; rfl)
                    have HE1 : Hid (ee = if (g nx).n % Sm.L = 0 then 4 else 0) := hidden (by rw [HEE.out, if_neg (by omega)]; rfl)
                    simp only [E4.v] at RL
                    clear hr0
                    go_upto_region 34 with (first | (go_at_call 11; refine RL.out.mono ?_; rintro e w6 ⟨r, rfl, hr, hb⟩; have hrz : zz = r := HZ1'.out.trans hr.symm; subst hrz; have Y14 := hidden (X14.out.keep hb X14.out.lt); have Y16 := hidden (X16.out.keep hb X16.out.lt); have BL := hidden hb; have b0 := Y16.out.c0; have b1 := Y16.out.c1; have b2 := Y16.out.c2; have b3 := Y16.out.c3; have g0 := Y16.out.f 0; have g1 := Y16.out.f 1; have g2 := Y16.out.f 2; have g3 := Y16.out.f 3; clear hb hr))
                    clear x0 x1 x2 x3 RL b0 b1 b2 b3 g0 g1 g2 g3
                    have Z14 : Hid (B4 ((((w6.setCell ⟨A + 1, 0, none⟩ (.int .u64 zz.x0)).setCell ⟨A + 1, 1, none⟩ (.int .u64 zz.x1)).setCell ⟨A + 1, 2, none⟩ (.int .u64 zz.x2)).setCell ⟨A + 1, 3, none⟩ (.int .u64 zz.x3)) A 27 zz) := hidden (Y14.out.blk (put4_ne w6 (A + 1) A zz (by omega)))
                    have Z16 : Hid (B4 ((((w6.setCell ⟨A + 1, 0, none⟩ (.int .u64 zz.x0)).setCell ⟨A + 1, 1, none⟩ (.int .u64 zz.x1)).setCell ⟨A + 1, 2, none⟩ (.int .u64 zz.x2)).setCell ⟨A + 1, 3, none⟩ (.int .u64 zz.x3)) (A + 1) 43 zz) := hidden (Y16.out.put zz)
                    have KZ : Hid (∀ k, k < w3.heap.size → ((((w6.setCell ⟨A + 1, 0, none⟩ (.int .u64 zz.x0)).setCell ⟨A + 1, 1, none⟩ (.int .u64 zz.x1)).setCell ⟨A + 1, 2, none⟩ (.int .u64 zz.x2)).setCell ⟨A + 1, 3, none⟩ (.int .u64 zz.x3)).heap[k]? = w3.heap[k]?) := hidden (fun k hk => (put4_ne w6 (A + 1) k zz (by have := HA.out; omega)).trans ((BL.out.block k (by have := HZW.out; omega)).trans (KB.out k hk)))
                    have BZ : Hid (Below w.heap.size w ((((w6.setCell ⟨A + 1, 0, none⟩ (.int .u64 zz.x0)).setCell ⟨A + 1, 1, none⟩ (.int .u64 zz.x1)).setCell ⟨A + 1, 2, none⟩ (.int .u64 zz.x2)).setCell ⟨A + 1, 3, none⟩ (.int .u64 zz.x3))) := hidden (put4_bel zz (bl_trans HBn.out BL.out) (by have := HB3.out.size; have := HA.out; omega))
                    have ZW : Hid (w3.heap.size ≤ ((((w6.setCell ⟨A + 1, 0, none⟩ (.int .u64 zz.x0)).setCell ⟨A + 1, 1, none⟩ (.int .u64 zz.x1)).setCell ⟨A + 1, 2, none⟩ (.int .u64 zz.x2)).setCell ⟨A + 1, 3, none⟩ (.int .u64 zz.x3)).heap.size) := hidden (by have h1 := put4_size w6 (A + 1) zz; unfold put4 at h1; rw [h1]; have := HZW.out; have := BL.out.size; omega)
                    clear X14 X16 KB HBn HZW Y14 Y16 BL
                    generalize ((((w6.setCell ⟨A + 1, 0, none⟩ (.int .u64 zz.x0)).setCell ⟨A + 1, 1, none⟩ (.int .u64 zz.x1)).setCell ⟨A + 1, 2, none⟩ (.int .u64 zz.x2)).setCell ⟨A + 1, 3, none⟩ (.int .u64 zz.x3)) = w7 at Z14 Z16 KZ BZ ZW ⊢
                    have X14 := Z14
                    have X16 := Z16
                    have KB := KZ
                    have HBn := BZ
                    have HZW := ZW
                    clear Z14 Z16 KZ BZ ZW
                    have q0 := X16.out.c0; have q1 := X16.out.c1; have q2 := X16.out.c2; have q3 := X16.out.c3
                    have hq : ∀ w, (Op.equalIn 10000 43 (.agg #[.int .u64 zz.x0, .int .u64 zz.x1, .int .u64 zz.x2, .int .u64 zz.x3]) (.agg #[.int .u64 0, .int .u64 0, .int .u64 0, .int .u64 0])).run Tryd.prog w = .ok (zz.same ⟨0, 0, 0, 0⟩) w := fun w => requalT zz ⟨0, 0, 0, 0⟩ w
                    have hsame : zz.same ⟨0, 0, 0, 0⟩ = decide ((g nx).n % Sm.L = 0) := by
                      rw [Bool.eq_iff_iff, E4.same_iff, HZ1'.out, zero_is]
                      simp
                    rw [hsame] at hq
                    clear hsame
                    by_cases hz0 : (g nx).n % Sm.L = 0
                    · rw [decide_eq_true hz0] at hq
                      have hee4 : ee = 4 := by rw [HE1.out, if_pos hz0]
                      subst hee4
                      clear hz0
                      go_upto_region 37 with fail
                      clear q0 q1 q2 q3 hq
                      have a0 := X14.out.c0; have a1 := X14.out.c1; have a2 := X14.out.c2; have a3 := X14.out.c3
                      have q0 := X16.out.c0; have q1 := X16.out.c1; have q2 := X16.out.c2; have q3 := X16.out.c3
                      have heq : ∀ w, (Op.equalIn 10000 27 (.agg #[.int .u64 zz.x0, .int .u64 zz.x1, .int .u64 zz.x2, .int .u64 zz.x3]) (.agg #[.int .u64 zz.x0, .int .u64 zz.x1, .int .u64 zz.x2, .int .u64 zz.x3])).run Tryd.prog w = .ok true w := fun w => (eq4 zz zz w).trans (by rw [E4.same_self])
                      go_upto_region 39 with (first | (go_at_call 12; refine (num_any _ _).mono ?_; rintro e wq ⟨rfl, hb⟩; have BQ := hidden hb; clear hb))
                      clear a0 a1 a2 a3 q0 q1 q2 q3 heq
                      have KQ : Hid (∀ k, k < w3.heap.size → wq.heap[k]? = w3.heap[k]?) := hidden (fun k hk => (BQ.out.block k (by have := HZW.out; omega)).trans (KB.out k hk))
                      have VQ := hidden (L2.out.vW HT3.out (w2 := wq) (fun k hk => KQ.out k (Nat.lt_of_lt_of_le hk HT3.out.size)))
                      have BOQ := hidden (BO3.out.blk (KQ.out T BO3.out.lt))
                      have HSZ9 : Hid (s + 1 ≤ wq.heap.size) := hidden (by have := BQ.out.size; have := HZW.out; have := HX3.out.lt; omega)
                      have t0 := BOQ.out.c0; have t1 := BOQ.out.c1; have t2 := BOQ.out.c2; have t3 := BOQ.out.c3
                      have HBQ := hidden (bl_trans HBn.out BQ.out)
                      go_wp2_with (first | (at_builtin; refine wpList_append_own_at _ rfl _ _ 23 rfl (s + 1) 32 j0 (.agg #[.int .i64 0, .int .i64 0, .string .empty, .slice none 0 0]) 4 56 JU.out JI.out JZ0.out JZ1.out JZ2.out rfl (by decide) u10 rs.length (opc rs) rfl (VQ.out.alloc _) ⟨wq.heap.size, 0, none⟩ 1 1 [.int .i64 F.k, .int .i64 F.a, .string (sb F.l), .slice F.m.P F.ps.length F.m.c] rfl rfl (cells_new wq _ _) (by simp [Value.oneCell']) (by have := HRL.out; unfold maxLen; omega) (by have := HRL.out; omega) (by have := HSZ9.out; simp; omega) ?_; intro vm w9 how9 hgr9 hnil9 hat9))
                      have NL := hidden (L2.out.said (o := F) HX3.out HD3.out HL3.out HH3.out (PtIn.empty _ _ _) HV3.out HT3.out HEN.out (by have := BQ.out.size; have := HZW.out; omega) (fun k hk => Or.inl (KQ.out k hk)) hgr9 how9 hat9)
                      have NB := hidden (below_trans HBQ.out (below_trans ((bl_alloc wq _).mono HBQ.out.size) (below_grown (base := w.heap.size) hgr9 (by have := HBQ.out.size; simp; omega) (fun j hj => by have := (VQ.out.lt j hj).1; have := HSP.out.1; omega))))
                      have NR : Hid ((rs ++ [F]).length ≤ i + 1 ∧ ∀ o ∈ rs ++ [F], ∃ t, t < n ∧ o = f t) := hidden ⟨by rw [List.length_append]; have := HRS.out.1; simp; omega, fun o ho => by
                        rcases List.mem_append.1 ho with ho | ho
                        · exact HRS.out.2 o ho
                        · simp only [List.mem_singleton] at ho
                          exact ⟨i, hin, ho.trans HF.out⟩⟩
                      have NLX : Hid (Ls w9 (s + 1) s PL' d' (m - (nx + 1)) (fun k => g (nx + 1 + k)) vn vm (es ++ [(⟨true, F.l, []⟩, xm)]) (rs ++ [F])) := hidden (by have e1 : (fun k => g (nx + 1 + k)) = fun k => g (nx + (k + 1)) := (by funext k; congr 1; omega); rw [e1, show m - (nx + 1) = m - nx - 1 by omega]; exact NL.out)
                      go_roundw
                      case rel => exact ⟨i + 1, nx + 1, _, _, _, _, _, by omega, by go_num, by omega, by go_num, NLX, NR, NB⟩
                      case measure => simp [intOf]; omega

                    · rw [decide_eq_false hz0] at hq
                      have hee0 : ee = 0 := by rw [HE1.out, if_neg hz0]
                      subst hee0
                      clear hz0
                      go_upto_region 37 with fail
                      clear q0 q1 q2 q3 hq
                      have a0 := X14.out.c0; have a1 := X14.out.c1; have a2 := X14.out.c2; have a3 := X14.out.c3
                      have q0 := X16.out.c0; have q1 := X16.out.c1; have q2 := X16.out.c2; have q3 := X16.out.c3
                      have heq : ∀ w, (Op.equalIn 10000 27 (.agg #[.int .u64 zz.x0, .int .u64 zz.x1, .int .u64 zz.x2, .int .u64 zz.x3]) (.agg #[.int .u64 zz.x0, .int .u64 zz.x1, .int .u64 zz.x2, .int .u64 zz.x3])).run Tryd.prog w = .ok true w := fun w => (eq4 zz zz w).trans (by rw [E4.same_self])
                      go_upto_region 39 with (first | (go_at_call 12; refine (num_any _ _).mono ?_; rintro e wq ⟨rfl, hb⟩; have BQ := hidden hb; clear hb))
                      clear a0 a1 a2 a3 q0 q1 q2 q3 heq
                      have KQ : Hid (∀ k, k < w3.heap.size → wq.heap[k]? = w3.heap[k]?) := hidden (fun k hk => (BQ.out.block k (by have := HZW.out; omega)).trans (KB.out k hk))
                      have VQ := hidden (L2.out.vW HT3.out (w2 := wq) (fun k hk => KQ.out k (Nat.lt_of_lt_of_le hk HT3.out.size)))
                      have BOQ := hidden (BO3.out.blk (KQ.out T BO3.out.lt))
                      have HSZ9 : Hid (s + 1 ≤ wq.heap.size) := hidden (by have := BQ.out.size; have := HZW.out; have := HX3.out.lt; omega)
                      have t0 := BOQ.out.c0; have t1 := BOQ.out.c1; have t2 := BOQ.out.c2; have t3 := BOQ.out.c3
                      have HBQ := hidden (bl_trans HBn.out BQ.out)
                      go_wp2_with (first | (at_builtin; refine wpList_append_own_at _ rfl _ _ 23 rfl (s + 1) 32 j0 (.agg #[.int .i64 0, .int .i64 0, .string .empty, .slice none 0 0]) 4 56 JU.out JI.out JZ0.out JZ1.out JZ2.out rfl (by decide) u10 rs.length (opc rs) rfl (VQ.out.alloc _) ⟨wq.heap.size, 0, none⟩ 1 1 [.int .i64 F.k, .int .i64 F.a, .string (sb F.l), .slice F.m.P F.ps.length F.m.c] rfl rfl (cells_new wq _ _) (by simp [Value.oneCell']) (by have := HRL.out; unfold maxLen; omega) (by have := HRL.out; omega) (by have := HSZ9.out; simp; omega) ?_; intro vm w9 how9 hgr9 hnil9 hat9))
                      have NL := hidden (L2.out.said (o := F) HX3.out HD3.out HL3.out HH3.out (PtIn.empty _ _ _) HV3.out HT3.out HEN.out (by have := BQ.out.size; have := HZW.out; omega) (fun k hk => Or.inl (KQ.out k hk)) hgr9 how9 hat9)
                      have NB := hidden (below_trans HBQ.out (below_trans ((bl_alloc wq _).mono HBQ.out.size) (below_grown (base := w.heap.size) hgr9 (by have := HBQ.out.size; simp; omega) (fun j hj => by have := (VQ.out.lt j hj).1; have := HSP.out.1; omega))))
                      have NR : Hid ((rs ++ [F]).length ≤ i + 1 ∧ ∀ o ∈ rs ++ [F], ∃ t, t < n ∧ o = f t) := hidden ⟨by rw [List.length_append]; have := HRS.out.1; simp; omega, fun o ho => by
                        rcases List.mem_append.1 ho with ho | ho
                        · exact HRS.out.2 o ho
                        · simp only [List.mem_singleton] at ho
                          exact ⟨i, hin, ho.trans HF.out⟩⟩
                      have NLX : Hid (Ls w9 (s + 1) s PL' d' (m - (nx + 1)) (fun k => g (nx + 1 + k)) vn vm (es ++ [(⟨true, F.l, []⟩, xm)]) (rs ++ [F])) := hidden (by have e1 : (fun k => g (nx + 1 + k)) = fun k => g (nx + (k + 1)) := (by funext k; congr 1; omega); rw [e1, show m - (nx + 1) = m - nx - 1 by omega]; exact NL.out)
                      go_roundw
                      case rel => exact ⟨i + 1, nx + 1, _, _, _, _, _, by omega, by go_num, by omega, by go_num, NLX, NR, NB⟩
                      case measure => simp [intOf]; omega

                  · have n1 : ¬ (nx : Int) < (m : Int) := by omega
                    have hzz0 : zz = ⟨0, 0, 0, 0⟩ := by rw [HZZ.out, if_pos (by omega)]
                    have hee5 : ee = 5 := by rw [HEE.out, if_pos (by omega)]
                    subst hee5
                    rw [← hzz0] at X16
                    clear hzz0
                    go_upto_region 37 with fail
                    have a0 := X14.out.c0; have a1 := X14.out.c1; have a2 := X14.out.c2; have a3 := X14.out.c3
                    have q0 := X16.out.c0; have q1 := X16.out.c1; have q2 := X16.out.c2; have q3 := X16.out.c3
                    have heq : ∀ w, (Op.equalIn 10000 27 (.agg #[.int .u64 zz.x0, .int .u64 zz.x1, .int .u64 zz.x2, .int .u64 zz.x3]) (.agg #[.int .u64 zz.x0, .int .u64 zz.x1, .int .u64 zz.x2, .int .u64 zz.x3])).run Tryd.prog w = .ok true w := fun w => (eq4 zz zz w).trans (by rw [E4.same_self])
                    go_upto_region 39 with (first | (go_at_call 12; refine (num_any _ _).mono ?_; rintro e wq ⟨rfl, hb⟩; have BQ := hidden hb; clear hb))
                    clear a0 a1 a2 a3 q0 q1 q2 q3 heq
                    have KQ : Hid (∀ k, k < w3.heap.size → wq.heap[k]? = w3.heap[k]?) := hidden (fun k hk => (BQ.out.block k (by have := HZW.out; omega)).trans (KB.out k hk))
                    have VQ := hidden (L2.out.vW HT3.out (w2 := wq) (fun k hk => KQ.out k (Nat.lt_of_lt_of_le hk HT3.out.size)))
                    have BOQ := hidden (BO3.out.blk (KQ.out T BO3.out.lt))
                    have HSZ9 : Hid (s + 1 ≤ wq.heap.size) := hidden (by have := BQ.out.size; have := HZW.out; have := HX3.out.lt; omega)
                    have t0 := BOQ.out.c0; have t1 := BOQ.out.c1; have t2 := BOQ.out.c2; have t3 := BOQ.out.c3
                    have HBQ := hidden (bl_trans HBn.out BQ.out)
                    go_wp2_with (first | (at_builtin; refine wpList_append_own_at _ rfl _ _ 23 rfl (s + 1) 32 j0 (.agg #[.int .i64 0, .int .i64 0, .string .empty, .slice none 0 0]) 4 56 JU.out JI.out JZ0.out JZ1.out JZ2.out rfl (by decide) u10 rs.length (opc rs) rfl (VQ.out.alloc _) ⟨wq.heap.size, 0, none⟩ 1 1 [.int .i64 F.k, .int .i64 F.a, .string (sb F.l), .slice F.m.P F.ps.length F.m.c] rfl rfl (cells_new wq _ _) (by simp [Value.oneCell']) (by have := HRL.out; unfold maxLen; omega) (by have := HRL.out; omega) (by have := HSZ9.out; simp; omega) ?_; intro vm w9 how9 hgr9 hnil9 hat9))
                    have NL := hidden (L2.out.said (o := F) HX3.out HD3.out HL3.out HH3.out (PtIn.empty _ _ _) HV3.out HT3.out HEN.out (by have := BQ.out.size; have := HZW.out; omega) (fun k hk => Or.inl (KQ.out k hk)) hgr9 how9 hat9)
                    have NB := hidden (below_trans HBQ.out (below_trans ((bl_alloc wq _).mono HBQ.out.size) (below_grown (base := w.heap.size) hgr9 (by have := HBQ.out.size; simp; omega) (fun j hj => by have := (VQ.out.lt j hj).1; have := HSP.out.1; omega))))
                    have NR : Hid ((rs ++ [F]).length ≤ i + 1 ∧ ∀ o ∈ rs ++ [F], ∃ t, t < n ∧ o = f t) := hidden ⟨by rw [List.length_append]; have := HRS.out.1; simp; omega, fun o ho => by
                      rcases List.mem_append.1 ho with ho | ho
                      · exact HRS.out.2 o ho
                      · simp only [List.mem_singleton] at ho
                        exact ⟨i, hin, ho.trans HF.out⟩⟩
                    have NLX : Hid (Ls w9 (s + 1) s PL' d' (m - nx) (fun k => g (nx + k)) vn vm (es ++ [(⟨true, F.l, []⟩, xm)]) (rs ++ [F])) := hidden (by have h0 := NL.out; rw [show m - nx - 1 = 0 by omega] at h0; rw [show m - nx = 0 by omega]; exact h0.zero)
                    go_roundw
                    case rel => exact ⟨i + 1, nx, _, _, _, _, _, by omega, by go_num, by omega, rfl, NLX, NR, NB⟩
                    case measure => simp [intOf]; omega

                · by_cases k4 : F.k = 4
                  · go_upto_region 41 with fail
                    clear y0
                    obtain ⟨PW, cW, hvW, -⟩ := own_shape4 L2.out.v
                    subst hvW
                    have HC := hidden (Heard_ls L2.out (HS.out.keep B2.out) (by have := HRS.out.1; have := HN.out; omega) HRS.out.2)
                    go_upto_region 44 with (first | (go_at_call 13; refine HC.out.mono ?_; rintro e w3 ⟨gl, gm, QQ, CC, rfl, hz, hb⟩; have EC := hidden (heard_ls L2.out (HS.out.keep B2.out) (by have := HRS.out.1; have := HN.out; omega) HRS.out.2 hz hb); have HZ := hidden hz; have B3 := hidden hb; clear hz hb) | (go_at_call 14; refine EC.out.mono ?_; rintro e w4 ⟨rfl, hb⟩; have Y4 := hidden (HZ.out.stay hb).hy; have B4 := hidden (bl_trans B3.out hb); clear hb))
                    clear HC EC HZ B3
                    have hel : es.length ≤ 2 ^ 60 := by have h1 := congrArg List.length L2.out.en; simp only [List.length_map] at h1; have := HRS.out.1; have := HN.out; omega
                    have HEL := hidden hel
                    have HEF : Hid (∀ t, t < es.length → Bd (es.getD t xD).1.ps) := hidden (fun t ht => by
                      obtain ⟨o, ho2, e⟩ := en_mem L2.out.en (getD_mem es xD t ht)
                      obtain ⟨u, hu, rfl⟩ := HRS.out.2 o ho2
                      rw [e]
                      exact en_frl _ (HS.out.fr u hu))
                    clear hel
                    obtain ⟨en, hen⟩ : ∃ en : Nat → En, en = fun t => (es.getD t xD).1 := ⟨_, rfl⟩
                    rw [← hen] at Y4
                    have HEE : Hid (∀ t, t < es.length → Bd (en t).ps) := hidden (fun t ht => by rw [hen]; exact HEF.out t ht)
                    clear hen HEF
                    obtain ⟨LN, hLN⟩ : ∃ LN, LN = es.length := ⟨_, rfl⟩
                    rw [← hLN] at Y4 HEE HEL ⊢
                    clear hLN
                    go_wp2_with fail
                    go_loopw [19] (fun jv w' => ∃ j : Nat, j ≤ LN ∧ jv = .int .i64 (j : Int) ∧ Hid (Hy w' w2.heap.size gl LN j en gm QQ CC) ∧ Hid (Below w2.heap.size w2 w')) (fun j _ => LN - (intOf j).toNat)
                    case atStart => exact ⟨0, by omega, rfl, Y4, B4⟩
                    case round =>
                      clear Y4 B4
                      rename World => wv
                      obtain ⟨j, hj, rfl, HY, HBY⟩ := hrel
                      by_cases hjn : j < LN
                      · have z2 := HY.out.c2 j (Nat.le_refl _) hjn
                        have OWJ := HY.out.ow j (Nat.le_refl _) hjn
                        have SP := hidden (spoil_any (inE en gm QQ j) (some ⟨gm j, 0, none⟩) (gm j) (en j).ps.length (en j).ps.length (fun t => ((en j).ps.getD t []).length) (CC j) (QQ j) wv (fun _ => rfl) (fun _ => Or.inl rfl) (OWJ.sp (HEE.out j hjn) (fun t ht a ha => Or.inr ⟨t, ht, a, ha, rfl⟩)) (len_frl (HEE.out j hjn)))
                        have HIB : Hid (∀ k, inE en gm QQ j k → w2.heap.size ≤ k) := hidden (fun k hk => by
                          rcases hk with rfl | ⟨r, hr, a, ha, rfl⟩
                          · exact (OWJ.list.lt (gm j) rfl).1
                          · exact (own_farQ (OWJ.row r hr) a ha).1)
                        have HGI : Hid (¬ inE en gm QQ j gl) := hidden (fun e => by
                          have hf := HY.out.far j hjn
                          rcases e with e | ⟨r, hr, a, ha, e⟩
                          · omega
                          · have := OWJ.far r hr a ha
                            omega)
                        have j0 : (0 : Int) ≤ (j : Int) := by omega
                        have j1 : (j : Int) < (LN : Int) := by omega
                        have w8 : IntKind.i64.wrap ((j : Int) + 1) = (j : Int) + 1 := IntWalk.i64_in _ (by have := HEL.out; omega)
                        clear OWJ
                        go_wp2_with (first | (go_at_call 9; refine SP.out.mono ?_; rintro e w5 ⟨rfl, hbt⟩; have hg5 : w5.heap[gl]? = wv.heap[gl]? := hbt.block gl HY.out.gl.2 HGI.out; have cw : ∀ x, w5.cell? ⟨gl, x, none⟩ = wv.cell? ⟨gl, x, none⟩ := (fun x => World.cell?_of_block (a := ⟨gl, x, none⟩) hg5); have fw : ∀ x, w5.frozen? ⟨gl, x, none⟩ = wv.frozen? ⟨gl, x, none⟩ := (fun x => World.frozen?_of_block (a := ⟨gl, x, none⟩) hg5); obtain ⟨a0, d0⟩ := HY.out.ce (j * 3) (by omega); obtain ⟨a1, d1⟩ := HY.out.ce (j * 3 + 1) (by omega); obtain ⟨a2, d2⟩ := HY.out.ce (j * 3 + 2) (by omega); rw [← cw] at d0 d1 d2; have f0 := (fw _).trans (HY.out.fr (j * 3) (by omega)); have f1 := (fw _).trans (HY.out.fr (j * 3 + 1) (by omega)); have f2 := (fw _).trans (HY.out.fr (j * 3 + 2) (by omega)); have NY := hidden (HY.out.next hjn hbt (.bool false) (.string ⟨#[115, 112, 111, 105, 108, 116]⟩) (.slice none 0 0)); have NB := hidden (below_trans HBY.out (hbt.below HBY.out.size HIB.out)); have HGL := hidden HY.out.gl.1; clear hbt hg5 cw fw))
                        go_roundw
                        case rel => exact ⟨j + 1, by omega, by go_num, NY, hidden (((NB.out.setCell HGL.out _).setCell HGL.out _).setCell HGL.out _)⟩
                        case measure => simp [intOf]; omega
                      · have hjj : LN = j := by omega
                        subst hjj
                        have lq2 : ¬ (LN : Int) < (LN : Int) := by omega
                        have NL := hidden (L2.out.stay HBY.out)
                        have NB := hidden (bl_trans B2.out HBY.out)
                        go_wp2_with fail
                        refine ⟨⟨i + 1, nx, PL, d, vH, es, rs, by omega, by go_num, hnx, rfl, NL, hidden ⟨by have := HRS.out.1; omega, HRS.out.2⟩, NB⟩, by simp [intOf]; omega⟩
                  · go_wp2_with fail
                    go_roundw
                    case rel => exact ⟨i + 1, nx, PL, d, vH, es, rs, by omega, by go_num, hnx, rfl, L2, hidden ⟨by have := HRS.out.1; omega, HRS.out.2⟩, B2⟩
                    case measure => simp [intOf]; omega
            · have him : n = i := by omega
              subst him
              have lq : ¬ (n : Int) < (n : Int) := by omega
              obtain ⟨PW, cW, rfl, -⟩ := own_shape4 LS.out.v
              have HC := hidden (Heard_ls LS.out (HS.out.keep HB.out) (by have := HRS.out.1; have := HN.out; omega) HRS.out.2)
              go_wp2_with (first | (go_at_call 13; refine HC.out.mono ?_; rintro e w3 ⟨gl, gm, QQ, CC, rfl, hz, hb⟩; have EC := hidden (heard_ls LS.out (HS.out.keep HB.out) (by have := HRS.out.1; have := HN.out; omega) HRS.out.2 hz hb); have B3 := hidden hb; clear hz hb) | (go_at_call 14; refine EC.out.mono ?_; rintro e w4 ⟨rfl, hb⟩; have B4 := hidden (bl_trans B3.out hb); clear hb))
              refine bodyPost_ret (v := .bool true) (by simp [results, Tryd.results3, go_sem]) rfl ⟨rfl, bl_trans HB.out B4.out⟩
end Go.Proofs.YtagfneojcgcigaaDoor.Tr
