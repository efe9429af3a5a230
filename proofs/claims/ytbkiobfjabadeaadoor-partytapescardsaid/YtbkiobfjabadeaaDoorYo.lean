import Derived.Test.YtbkiobfjabadeaaDoorYn
namespace Go.Proofs.YtbkiobfjabadeaaDoor
open Go.RowKit
set_option linter.unusedVariables false
/-- what the written lists hold -/
noncomputable def fo (q : Nat → Tq) (i k j x : Nat) : E4 := if x < (q j).n ∧ (j < i ∨ (j = i ∧ x < k)) then lst (((q j).g x).n + ((x : Int) + 1)) else mk (q j).g (q j).n 77 x
noncomputable def fi (q : Nat → Tq) (i k j x : Nat) : E4 := if j < i ∨ (j = i ∧ x < k) then lst (((q j).g x).n + ((x : Int) + 1)) else lst ((q j).g x).n
theorem tc_oneV (a r s t : E4) (V1 V2 : Value) (n m : Nat) (h1 : ∃ p c, V1 = .slice p n c) (h2 : ∃ p c, V2 = .slice p m c) : (tc a r s t V1 V2).toArray.all (·.oneCell') = true := by
  obtain ⟨p, c, rfl⟩ := h1
  obtain ⟨p', c', rfl⟩ := h2
  exact tc_one _ _ _ _ _ _ _ _ _ _
theorem buildT (a r s t : E4) (p p' : Option Addr) (n m c d : Nat) (w : World) : (Instr.buildSlice 24 1 #[(0, .agg (tc a r s t (.slice p n c) (.slice p' m d)).toArray)]).run Tryd.prog w = .ok (.slice (some ⟨w.heap.size, 0, none⟩) 1 1) (w.alloc (.cells (tc a r s t (.slice p n c) (.slice p' m d)).toArray 31)) := by kernel_rfl
theorem buildD (a r s t : E4) (p p' : Option Addr) (n m c d : Nat) (w : World) : (Instr.buildSlice 25 1 #[(0, .agg (tc a r s t (.slice p n c) (.slice p' m d)).toArray)]).run Tryd.prog w = .ok (.slice (some ⟨w.heap.size, 0, none⟩) 1 1) (w.alloc (.cells (tc a r s t (.slice p n c) (.slice p' m d)).toArray 36)) := by kernel_rfl
theorem wpList_build1 {w : World} {ops : Array Oper} {rest : List Oper} {o : Oper} {a : Act} {Q : Exit → Act → World → Prop} (hgd : o.guard = none) (t e : TypeId) (x : Operand) (ho : o.op = .buildSlice t 1 #[(0, x)]) (D : List Value) (hx : a.eval x = .agg D.toArray)
    (hr : (Instr.buildSlice t 1 #[(0, .agg D.toArray)]).run Tryd.prog w = .ok (.slice (some ⟨w.heap.size, 0, none⟩) 1 1) (w.alloc (.cells D.toArray e)))
    (h : wpList Tryd.prog ops Q rest (a.put o.dst (.slice (some ⟨w.heap.size, 0, none⟩) 1 1)) (w.alloc (.cells D.toArray e))) : wpList Tryd.prog ops Q (o :: rest) a w := by
  refine wpList_plain hgd fun K hK => ?_
  unfold Oper.wp execOp
  simp only [ho, Sem.run_bind, Sem.run_pure, Result.andThen_ok, List.map_toArray, List.map_cons, List.map_nil, hx, hr]
  exact hK _ _ h
/-- one of four -/
def sel4 {α : Type} (a b c d : α) : Nat → α
  | 0 => a
  | 1 => b
  | 2 => c
  | _ => d
theorem four_apart (wa w : World) (B cB n : Nat) (p1 p2 p3 p4 : Option Addr) (k1 k2 k3 k4 : Nat) (g1 g2 : Nat → E4) (hn : n ≤ 1024) (hb : Below wa.heap.size wa w) (c0 : w.cell? ⟨B, 0, none⟩ = some (.slice p1 n k1)) (c1 : w.cell? ⟨B, 1, none⟩ = some (.slice p2 n k2)) (c2 : w.cell? ⟨B, 2, none⟩ = some (.slice p3 n k3)) (c3 : w.cell? ⟨B, 3, none⟩ = some (.slice p4 n k4))
    (r0 : w.ownsRow wa.heap.size 28 4 (.slice p1 n k1) n (svs n g1)) (r1 : w.ownsRow wa.heap.size 28 4 (.slice p2 n k2) n (svs n g2)) (r2 : w.ownsRow wa.heap.size 28 4 (.slice p3 n k3) n (svs n g1)) (r3 : w.ownsRow wa.heap.size 28 4 (.slice p4 n k4) n (svs n g2))
    (d01 : Dj (.slice p1 n k1) (.slice p2 n k2)) (d23 : Dj (.slice p3 n k3) (.slice p4 n k4)) (d02 : Dj (.slice p1 n k1) (.slice p3 n k3)) (d03 : Dj (.slice p1 n k1) (.slice p4 n k4)) (d12 : Dj (.slice p2 n k2) (.slice p3 n k3)) (d13 : Dj (.slice p2 n k2) (.slice p4 n k4))
    (b0 : ¬ (Value.slice p1 n k1).ownBlock = some B) (b1 : ¬ (Value.slice p2 n k2).ownBlock = some B) (b2 : ¬ (Value.slice p3 n k3).ownBlock = some B) (b3 : ¬ (Value.slice p4 n k4).ownBlock = some B) :
    Calls Tryd.prog 11 #[.slice (some ⟨B, 0, none⟩) 4 cB] w fun e w' => e = .returned (.bool true) ∧ Below wa.heap.size wa w' := by
  refine apart_any wa w B 4 cB (fun _ => n) (sel4 p1 p2 p3 p4) (sel4 k1 k2 k3 k4) (sel4 g1 g2 g1 g2) ⟨by omega, fun i hi => by omega, fun i j hi hj hne => ?_, fun i hi => ?_⟩ ⟨hb, fun i hi => ?_, fun i hi => ?_⟩
  · match i, j, hi, hj, hne with
    | 0, 0, _, _, h => exact absurd rfl h
    | 0, 1, _, _, _ => exact d01
    | 0, 2, _, _, _ => exact d02
    | 0, 3, _, _, _ => exact d03
    | 1, 0, _, _, _ => exact d01.symm
    | 1, 1, _, _, h => exact absurd rfl h
    | 1, 2, _, _, _ => exact d12
    | 1, 3, _, _, _ => exact d13
    | 2, 0, _, _, _ => exact d02.symm
    | 2, 1, _, _, _ => exact d12.symm
    | 2, 2, _, _, h => exact absurd rfl h
    | 2, 3, _, _, _ => exact d23
    | 3, 0, _, _, _ => exact d03.symm
    | 3, 1, _, _, _ => exact d13.symm
    | 3, 2, _, _, _ => exact d23.symm
    | 3, 3, _, _, h => exact absurd rfl h
  · match i, hi with
    | 0, _ => exact b0
    | 1, _ => exact b1
    | 2, _ => exact b2
    | 3, _ => exact b3
  · match i, hi with
    | 0, _ => exact c0
    | 1, _ => exact c1
    | 2, _ => exact c2
    | 3, _ => exact c3
  · match i, hi with
    | 0, _ => exact r0
    | 1, _ => exact r1
    | 2, _ => exact r2
    | 3, _ => exact r3
theorem ST.stays {w0 x : World} {q : Nat → Tq} {N M : Nat} {L R K J L0 R0 : Nat → Value} {Vo Vi : Value} {f d : Nat → Nat → E4} (h : ST w0 q N M L R K J Vo Vi f d x) {i : Nat} (hi : i < N) (hf : ∀ k, k < (q i).n + 1 → f i k = Go.Proofs.YtbkiobfjabadeaaDoor.mk (q i).g (q i).n 77 k) (ok : (q i).ok) (h1 : In x (L0 i) (q i).n (q i).g) (h2 : In x (R0 i) (q i).m (q i).h) :
    Calls Tryd.prog 8 #[.agg (tc (q i).a (q i).r (q i).s (q i).t (cut (L i)) (cut (R i))).toArray, .agg (tc (q i).a (q i).r (q i).s (q i).t (L0 i) (R0 i)).toArray] x fun e w' => e = .returned (.bool true) ∧ Below x.heap.size x w' := by
  obtain ⟨b, c, b', c', e1, e2, k1, _, e3, e4, k2, o1, o2⟩ := h.ll.cut hi
  rw [svs_congr hf] at o1
  rw [e2, e4]
  exact stays_any _ _ b c b' c' (q i).n (q i).m (L0 i) (R0 i) (q i).g (q i).h x ok.2.2.2.2.2.2.1 ok.2.2.2.2.2.2.2 rfl rfl rfl rfl k1 k2 (own_rlo o1) (own_rlo o2) h1 h2
theorem rlo_range {w : World} {b n k : Nat} {g : Nat → E4} (h : Rlo w b 0 n g) (hk : k < n) : w.rangeAt b (k * 4) [.int .u64 (g k).x0, .int .u64 (g k).x1, .int .u64 (g k).x2, .int .u64 (g k).x3] := fun j v hv => by
  have a0 := h.c0 k hk; have a1 := h.c1 k hk; have a2 := h.c2 k hk; have a3 := h.c3 k hk
  simp only [Nat.zero_add] at a0 a1 a2 a3
  match j, hv with
  | 0, hv => cases hv; exact a0
  | 1, hv => cases hv; exact a1
  | 2, hv => cases hv; exact a2
  | 3, hv => cases hv; exact a3
theorem own_there4 {w : World} {base b c n k : Nat} {e : TypeId} {g : Nat → E4} (h : w.ownsRow base e 4 (.slice (some ⟨b, 0, none⟩) n c) n (svs n g)) (hk : k < n) : w.there b (k * 4) 4 := fun j hj => by
  refine ⟨?_, h.frozenAt _⟩
  have := rlo_range (own_rlo h) hk
  match j, hj with
  | 0, _ => rw [this 0 _ rfl]; rfl
  | 1, _ => rw [this 1 _ rfl]; rfl
  | 2, _ => rw [this 2 _ rfl]; rfl
  | 3, _ => rw [this 3 _ rfl]; rfl
set_option maxRecDepth 100000 in
set_option maxHeartbeats 64000000 in
theorem law_any (b c : Int) (V : Value) (N : Nat) (q : Nat → Tq) (L0 R0 : Nat → Value) (w : World) (hT : Tb w) (hN : N ≤ 799644820177) (hV : Ts w V N q L0 R0) (hq : ∀ i, i < N → (q i).ok) :
    Calls Tryd.prog 3 #[.agg #[.int .i64 b, .int .i64 c], V] w fun e w' => e = .returned (.bool true) ∧ Below w.heap.size w w' := by
  have B0 := bl_alloc w (.cells #[.int .i64 b, .int .i64 c] 23)
  have HB1 := hidden B0
  have HT := hidden (hT.keep B0)
  have HV := hidden (hV.keep B0)
  have PB := hidden (Pb.new w b c 23)
  have HQ := hidden hq
  have HN := hidden hN
  have nn0 : (0 : Int) ≤ (N : Int) := by omega
  obtain ⟨P, cT, hVe, -⟩ := id hV
  subst hVe
  obtain ⟨i1, hi1, hz0, hz1, hz2⟩ := info_parts infoP
  have HI := hidden hi1; have HZ0 := hidden hz0; have HZ1 := hidden hz1; have HZ2 := hidden hz2
  obtain ⟨i2, hi2, hy0, hy1, hy2⟩ := info_parts infoR
  have HJ := hidden hi2; have HY0 := hidden hy0; have HY1 := hidden hy1; have HY2 := hidden hy2
  have HU : Hid (Tryd.prog.underlying 24 = some (.slice 31)) := hidden (by kernel_rfl)
  have HW : Hid (Tryd.prog.underlying 25 = some (.slice 36)) := hidden (by kernel_rfl)
  have U31 : Hid (Tryd.prog.underlying 31 = some _) := hidden Tryd.underlying31
  have ZC : Hid ((Value.agg tz.toArray).cells.size = 18) := hidden (by kernel_rfl)
  clear hV hT hN hq B0 hi1 hz0 hz1 hz2 hi2 hy0 hy1 hy2
  go_enter Tryd.func3, Tryd.ntmps3
  go_upto_region 1 with fail
  generalize w.alloc (.cells #[.int .i64 b, .int .i64 c] 23) = w1 at *
  go_wp2_with fail
  go_loopw [5, 6, 7] (fun ov dv kv w' => ∃ i : Nat, i ≤ N ∧ kv = .int .i64 i ∧ Hid (∃ L R K J, ST w1 q i i L R K J ov dv (fun j => mk (q j).g (q j).n 77) (fun j k => lst ((q j).g k).n) w')) (fun _ _ i _ => N - (intOf i).toNat)
  case atStart =>
    exact ⟨0, by omega, rfl, hidden ⟨fun _ => .slice none 0 0, fun _ => .slice none 0 0, fun _ => .slice none 0 0, fun _ => .slice none 0 0, Below.refl _ _, ⟨fun i hi => absurd hi (by omega), fun i hi => absurd hi (by omega), fun i j hi => absurd hi (by omega), fun i j hi => absurd hi (by omega)⟩, ⟨fun i hi => absurd hi (by omega), fun i hi => absurd hi (by omega), fun i j hi => absurd hi (by omega), fun i j hi => absurd hi (by omega)⟩, World.ownsRow_nil _ _ _ _, World.ownsRow_nil _ _ _ _⟩⟩
  case round =>
    obtain ⟨i, hi, rfl, hst⟩ := hrel
    obtain ⟨L, R, K, J, st⟩ := hst.out
    clear hst
    have ST0 := hidden st
    clear st
    by_cases hin : i < N
    · have ii0 : (0 : Int) ≤ (i : Int) := by omega
      have ii1 : (i : Int) < (N : Int) := by omega
      have w9 : IntKind.i64.wrap ((i : Int) + 1) = (i : Int) + 1 := IntWalk.i64_in _ (by have := HN.out; omega)
      have N9 : Hid (i < N ∧ N ≤ 799644820177) := hidden ⟨hin, HN.out⟩
      obtain ⟨P', c', e', hl, hi2⟩ := id HV.out
      simp only [Value.slice.injEq, true_and] at e'
      obtain ⟨rfl, rfl⟩ := e'
      obtain ⟨bt, ot, rfl, hr⟩ := hl (by omega)
      have RG0 := hidden (hr i hin)
      have IN := hidden (hi2 i hin)
      have QK := hidden (HQ.out i hin)
      have TW := hidden (fun x (h : Below w1.heap.size w1 x) => twin_any (q i).a (q i).r (q i).s (q i).t (L0 i) (R0 i) (q i).n (q i).m (q i).g (q i).h x QK.out.2.2.2.2.2.2.1 QK.out.2.2.2.2.2.2.2 (IN.out.1.keep h) (IN.out.2.keep h))
      have TD := hidden (fun x (h : Below w1.heap.size w1 x) => tape_any (q i) (L0 i) (R0 i) x QK.out (IN.out.1.keep h) (IN.out.2.keep h))
      obtain ⟨DI, hDI⟩ : ∃ DI, tc (q i).a (q i).r (q i).s (q i).t (L0 i) (R0 i) = DI := ⟨_, rfl⟩
      have TQL : Hid (DI.length = 18) := hidden (by rw [← hDI]; rfl)
      rw [hDI] at RG0 TW TD
      clear hDI hl hr hi2
      have II : Hid ((Tryd.prog.info? 31).map (·.size) = some DI.length) := hidden (by rw [TQL.out]; exact ptinfo)
      have RG := hidden (range_keepO RG0.out ST0.out.bel)
      have BW := hidden ST0.out.bel.size
      have VO := hidden ST0.out.vo
      have VI := hidden ST0.out.vi
      obtain ⟨pO, cO, eO, -⟩ := own_shape4 VO.out
      obtain ⟨pI, cI, eI, -⟩ := own_shape4 VI.out
      subst eO
      subst eI
      go_upto_region 7 with (first | (refine wpList_load_mid rfl 31 _ rfl bt (ot + i * 18) (by rfl) DI _ RG.out U31.out rfl II.out ?_) | (go_at_call 4; refine (TW.out _ ST0.out.bel).mono ?_; rintro e wt ⟨b1, c1, b2, c2, rfl, hlt, n1, n2, o1, o2, hb⟩; have HLT := hidden hlt; have O1 := hidden o1; have O2 := hidden o2; have HB := hidden hb; have VOt := hidden (own_keepX VO.out hb); have DE := hidden (fun w => buildT (q i).a (q i).r (q i).s (q i).t (some ⟨b1, 0, none⟩) (some ⟨b2, 0, none⟩) (q i).n (q i).m c1 c2 w); have ON := hidden (tc_one (q i).a (q i).r (q i).s (q i).t (some ⟨b1, 0, none⟩) (some ⟨b2, 0, none⟩) (q i).n c1 (q i).m c2); have DLn : Hid ((tc (q i).a (q i).r (q i).s (q i).t (.slice (some ⟨b1, 0, none⟩) (q i).n c1) (.slice (some ⟨b2, 0, none⟩) (q i).m c2)).length = 18) := hidden rfl; obtain ⟨DN, hDN⟩ : ∃ DN, tc (q i).a (q i).r (q i).s (q i).t (.slice (some ⟨b1, 0, none⟩) (q i).n c1) (.slice (some ⟨b2, 0, none⟩) (q i).m c2) = DN := ⟨_, rfl⟩; have HDN := hidden hDN; rw [hDN] at ON DLn DE ⊢; clear hDN hlt n1 n2 o1 o2 hb TW RG) | (refine wpList_build1 rfl 24 31 _ rfl DN (by rfl) (DE.out _) ?_) | (at_builtin; refine wpList_append_own_at _ rfl _ _ 24 rfl w1.heap.size 31 i1 (.agg tz.toArray) 18 176 HU.out HI.out HZ0.out HZ1.out HZ2.out ZC.out (by decide) _ _ _ rfl (VOt.out.alloc _) ⟨wt.heap.size, 0, none⟩ 1 1 DN rfl DLn.out (cells_new wt DN 31) (fun u hu => (Array.all_eq_true_iff_forall_mem.1 ON.out) u (by simpa using hu)) (by have := N9.out; unfold maxLen; omega) (by have := N9.out; omega) (by have := HB.out.size; have := BW.out; simp; omega) ?_; intro v3 w3 ho3 hg3 hn3 ha3; have O3 := hidden ho3; have G3 := hidden hg3; clear ho3 hg3 hn3 ha3))
      have ST1 : Hid (ST w1 q (i + 1) i (upd L i (.slice (some ⟨b1, 0, none⟩) ((q i).n + 1) c1)) (upd R i (.slice (some ⟨b2, 0, none⟩) ((q i).m + 1) c2)) K J v3 (.slice pI i cI) (fun j => mk (q j).g (q j).n 77) (fun j k => lst ((q j).g k).n) w3) := hidden (ST0.out.own HB.out O1.out O2.out (fun k hk e => by have h1 : b1 = k := Option.some.inj hk; have h2 : b2 = k := Option.some.inj e; have := HLT.out; omega) (bl_alloc wt _) (by have := O3.out; rw [← HDN.out] at this; exact this) G3.out)
      have RG := hidden (range_keepO RG0.out ST1.out.bel)
      have BW1 := hidden ST1.out.bel.size
      have VI1 := hidden ST1.out.vi
      clear ST0 HB O1 O2 HLT O3 G3 VO VI VOt HDN ON DLn BW DE
      go_upto_region 5 with (first | (refine wpList_load_mid rfl 31 _ rfl bt (ot + i * 18) (by rfl) DI _ RG.out U31.out rfl II.out ?_) | (go_at_call 5; refine (TD.out _ ST1.out.bel).mono ?_; rintro e wt2 ⟨p1, k1, p2, k2, x, rfl, o1, o2, hx, hlt, hb⟩; have HLT := hidden hlt; have HX := hidden hx; have O1 := hidden o1; have O2 := hidden o2; have HB := hidden hb; have VIt := hidden (own_keepX VI1.out hb); have ON := hidden (tc_one (q i).doc.a (q i).doc.r (q i).doc.s (q i).doc.t p1 p2 (q i).n k1 (q i).m k2); have DE := hidden (fun w => buildD (q i).doc.a (q i).doc.r (q i).doc.s (q i).doc.t p1 p2 (q i).n (q i).m k1 k2 w); have DLn : Hid ((tc (q i).doc.a (q i).doc.r (q i).doc.s (q i).doc.t (.slice p1 (q i).n k1) (.slice p2 (q i).m k2)).length = 18) := hidden rfl; obtain ⟨DN2, hDN⟩ : ∃ DN, tc (q i).doc.a (q i).doc.r (q i).doc.s (q i).doc.t (.slice p1 (q i).n k1) (.slice p2 (q i).m k2) = DN := ⟨_, rfl⟩; have HDN := hidden hDN; rw [hDN] at ON DLn DE ⊢; clear hDN hlt hx o1 o2 hb TD RG) | (refine wpList_build1 rfl 25 36 _ rfl DN2 (by rfl) (DE.out _) ?_) | (at_builtin; refine wpList_append_own_at _ rfl _ _ 25 rfl w1.heap.size 36 i2 (.agg tz.toArray) 18 176 HW.out HJ.out HY0.out HY1.out HY2.out ZC.out (by decide) _ _ _ rfl (VIt.out.alloc _) ⟨wt2.heap.size, 0, none⟩ 1 1 DN2 rfl DLn.out (cells_new wt2 DN2 36) (fun u hu => (Array.all_eq_true_iff_forall_mem.1 ON.out) u (by simpa using hu)) (by have := N9.out; unfold maxLen; omega) (by have := N9.out; omega) (by have := HB.out.size; have := BW1.out; simp; omega) ?_; intro v4 w4 ho3 hg3 hn3 ha3; have O3 := hidden ho3; have G3 := hidden hg3; clear ho3 hg3 hn3 ha3))
      have ST2 := hidden (ST1.out.doc HB.out HX.out O1.out O2.out (fun k hk e => by have h1 := HLT.out k hk; have h2 := (O2.out.lt k e).1; omega) (bl_alloc wt2 _) (by have := O3.out; rw [← HDN.out] at this; exact this) G3.out)
      clear ST1 HB O1 O2 HLT HX O3 G3 VI1 VIt HDN ON DLn BW1 DE
      go_wp2_with fail
      go_roundw
      case rel => exact ⟨i + 1, by omega, by go_num, hidden ⟨_, _, _, _, ST2.out⟩⟩
      case measure => simp [intOf]; omega
    · have hin : N = i := by omega
      subst hin
      have lq : ¬ (N : Int) < (N : Int) := by omega
      have okq : ∀ i, i < N → ((q i).with (mk (q i).g (q i).n 77)).ok := fun i hi => by
        obtain ⟨h1, h2, h3, h4, h5, h6, h7, h8⟩ := HQ.out i hi
        refine ⟨h1, h2, h3, h4, fun k hk => ?_, h6, h7, h8⟩
        have hk' : k < (q i).n := hk
        show (mk (q i).g (q i).n 77 k).ok
        unfold mk
        rw [if_neg (by omega)]
        exact h5 k hk
      obtain ⟨a, r, s, t, E, n, g1, g2, hn, WP, WD⟩ := wholes_both b c N (fun i => (q i).with (mk (q i).g (q i).n 77)) (by have := HN.out; omega) okq
      have HWP := hidden WP
      have HWD := hidden WD
      have Hn := hidden hn
      clear okq WP WD hn hi
      have TSO := hidden ST0.out.ts
      have TSD := hidden (ST0.out.td (fun j => mk (q j).g (q j).n 77) (fun i hi k hk => by unfold mk; rw [if_neg (by omega)]))
      have TBA := hidden (HT.out.keep ST0.out.bel)
      have cp := PB.out.keep ST0.out.bel
      have cp0 := cp.c0
      have cp1 := cp.c1
      clear cp
      obtain ⟨pO, cO, eO, -⟩ := own_shape4 ST0.out.vo
      obtain ⟨pI, cI, eI, -⟩ := own_shape4 ST0.out.vi
      subst eO
      subst eI
      have PBA := hidden (PB.out.keep ST0.out.bel)
      have MX0 := hidden (Mw.start wr)
      generalize wr = wa at *
      go_upto_region 9 with (first | (go_at_call 6; refine (HWP.out _ _ _ _ TBA.out TSO.out).mono ?_; rintro e wx ⟨p1, k1, p2, k2, rfl, o1, o2, dj, hb⟩; have MX1a := hidden (MX0.out.keep hb);  have OA := hidden o1; have OB := hidden o2; have DA := hidden dj; clear o1 o2 dj hb MX0 cp0 cp1) | (refine wpList_ptalloc rfl rfl ?_; have MX1b := hidden (MX1a.out.new tz 31);  have LTOA := hidden (fun k hk => (OA.out.lt k hk).2); replace OA := hidden (own_keepX OA.out (bl_alloc wx (.cells tz.toArray 31)));  have LTOB := hidden (fun k hk => (OB.out.lt k hk).2); replace OB := hidden (own_keepX OB.out (bl_alloc wx (.cells tz.toArray 31))); clear MX1a; generalize World.alloc _ _ = wy at *; generalize wx.heap.size = T8 at *) | (refine wpList_storeL rfl 31 _ _ rfl rfl T8 0 (tc a r s t (.slice p1 n k1) (.slice p2 n k2)) (by rfl) (by rfl) (MX1b.out.ther (tc a r s t (.slice p1 n k1) (.slice p2 n k2)) (c := T8) (o := tz) (by simp) rfl) ptinfo (tc_one _ _ _ _ _ _ _ _ _ _) ?_; have MX1 := hidden (MX1b.out.set (M := []) (tc a r s t (.slice p1 n k1) (.slice p2 n k2)) (c := T8) (o := tz) (by simp) rfl (by simp)); replace OA := hidden (own_setCells OA.out T8 0 (tc a r s t (.slice p1 n k1) (.slice p2 n k2)) (fun e => Nat.lt_irrefl _ (LTOA.out _ e))); clear LTOA; replace OB := hidden (own_setCells OB.out T8 0 (tc a r s t (.slice p1 n k1) (.slice p2 n k2)) (fun e => Nat.lt_irrefl _ (LTOB.out _ e))); clear LTOB; clear MX1b; generalize World.setCells _ T8 0 (tc a r s t (.slice p1 n k1) (.slice p2 n k2)) = wz at *))
      have cp := PBA.out.keep MX1.out.bel
      have cp0 := cp.c0
      have cp1 := cp.c1
      clear cp
      go_upto_region 10 with (first | (go_at_call 7; refine (HWD.out _ _ _ _ (TSD.out.keep MX1.out.bel)).mono ?_; rintro e wx2 ⟨p3, k3, p4, k4, rfl, o1, o2, dj, hb⟩; have MX2a := hidden (MX1.out.keep hb); replace OA := hidden (own_keepX OA.out hb); replace OB := hidden (own_keepX OB.out hb); have OC := hidden o1; have OD := hidden o2; have DC := hidden dj; clear o1 o2 dj hb MX1 cp0 cp1) | (refine wpList_rtalloc rfl rfl ?_; have MX2b := hidden (MX2a.out.new tz 36); have LBT8 : Hid (T8 < wx2.heap.size) := hidden (MX2a.out.r (T8, tc a r s t (.slice p1 n k1) (.slice p2 n k2)) (by simp)).2.2.2; have LTOA := hidden (fun k hk => (OA.out.lt k hk).2); replace OA := hidden (own_keepX OA.out (bl_alloc wx2 (.cells tz.toArray 36)));  have LTOB := hidden (fun k hk => (OB.out.lt k hk).2); replace OB := hidden (own_keepX OB.out (bl_alloc wx2 (.cells tz.toArray 36)));  have LTOC := hidden (fun k hk => (OC.out.lt k hk).2); replace OC := hidden (own_keepX OC.out (bl_alloc wx2 (.cells tz.toArray 36)));  have LTOD := hidden (fun k hk => (OD.out.lt k hk).2); replace OD := hidden (own_keepX OD.out (bl_alloc wx2 (.cells tz.toArray 36))); clear MX2a; generalize World.alloc _ _ = wy2 at *; generalize wx2.heap.size = T10 at *) | (refine wpList_storeL rfl 36 _ _ rfl rfl T10 0 (tc a r s t (.slice p3 n k3) (.slice p4 n k4)) (by rfl) (by rfl) (MX2b.out.ther (tc a r s t (.slice p3 n k3) (.slice p4 n k4)) (c := T10) (o := tz) (by simp) rfl) rtinfo (tc_one _ _ _ _ _ _ _ _ _ _) ?_; have MX2 := hidden (MX2b.out.set (M := [(T8, tc a r s t (.slice p1 n k1) (.slice p2 n k2))]) (tc a r s t (.slice p3 n k3) (.slice p4 n k4)) (c := T10) (o := tz) (by simp) rfl (by have hT8 := LBT8.out; simp; omega)); replace OA := hidden (own_setCells OA.out T10 0 (tc a r s t (.slice p3 n k3) (.slice p4 n k4)) (fun e => Nat.lt_irrefl _ (LTOA.out _ e))); clear LTOA; replace OB := hidden (own_setCells OB.out T10 0 (tc a r s t (.slice p3 n k3) (.slice p4 n k4)) (fun e => Nat.lt_irrefl _ (LTOB.out _ e))); clear LTOB; replace OC := hidden (own_setCells OC.out T10 0 (tc a r s t (.slice p3 n k3) (.slice p4 n k4)) (fun e => Nat.lt_irrefl _ (LTOC.out _ e))); clear LTOC; replace OD := hidden (own_setCells OD.out T10 0 (tc a r s t (.slice p3 n k3) (.slice p4 n k4)) (fun e => Nat.lt_irrefl _ (LTOD.out _ e))); clear LTOD; clear MX2b LBT8; generalize World.setCells _ T10 0 (tc a r s t (.slice p3 n k3) (.slice p4 n k4)) = wz2 at *))
      go_wp2_with fail
      go_loopw [12] (fun iv w' => ∃ i : Nat, i ≤ N ∧ iv = .int .i64 i ∧ Hid (Below wz2.heap.size wz2 w')) (fun i _ => N - (intOf i).toNat)
      case atStart => exact ⟨0, by omega, rfl, hidden (Below.refl _ _)⟩
      case round =>
        obtain ⟨i, hi, rfl, HBW⟩ := hrel
        by_cases hin : i < N
        · have ii0 : (0 : Int) ≤ (i : Int) := by omega
          have ii1 : (i : Int) < (N : Int) := by omega
          have w9 : IntKind.i64.wrap ((i : Int) + 1) = (i : Int) + 1 := IntWalk.i64_in _ (by have := HN.out; omega)
          have STX := hidden (ST0.out.keep (below_transI MX2.out.bel (bl_mono HBW.out (MX2.out.bel).size)))
          obtain ⟨P', c', e', hl, hi2⟩ := HV.out.keep STX.out.bel
          simp only [Value.slice.injEq, true_and] at e'
          obtain ⟨rfl, rfl⟩ := e'
          obtain ⟨bt, ot, rfl, hr⟩ := hl (by omega)
          obtain ⟨P2, c2, e2, hl2⟩ := rows_of_own STX.out.vo (fun _ _ => rfl)
          simp only [Value.slice.injEq, true_and] at e2
          obtain ⟨rfl, rfl⟩ := e2
          obtain ⟨bo, oo, rfl, hr2⟩ := hl2 (by omega)
          have QK := hidden (HQ.out i hin)
          have C8 : Hid (∀ x, Below wr.heap.size wr x → Calls Tryd.prog 8 #[.agg (tc (q i).a (q i).r (q i).s (q i).t (cut (L i)) (cut (R i))).toArray, .agg (tc (q i).a (q i).r (q i).s (q i).t (L0 i) (R0 i)).toArray] x fun e w' => e = .returned (.bool true) ∧ Below x.heap.size x w') := hidden (fun x hx => (STX.out.keep hx).stays hin (fun _ _ => rfl) QK.out ((hi2 i hin).1.keep hx) ((hi2 i hin).2.keep hx))
          have RO := hidden (hr2 i hin)
          have RT := hidden (hr i hin)
          clear hl hr hi2 hl2 hr2
          go_upto_region 13 with fail
          refine lw13 _ bo oo _ bt ot _ N i (tc (q i).a (q i).r (q i).s (q i).t (cut (L i)) (cut (R i))) (tc (q i).a (q i).r (q i).s (q i).t (L0 i) (R0 i)) _ _ _ _ _ _ _ _ _ _ _ _ _ _ _ _ _ _ _ _ _ _ _ _ _ _ _ _ _ _ _ _ _ _ _ _ _ _ _ _ _ _ _ _ _ _ _ _ _ _ _ _ _ _ _ _ _ _ _ _ _ _ _ _ _ _ _ _ _ _ _ _ _ _ _ _ _ _ _ _ _ _ _ _ _ _ _ _ _ _ _ _ _ _ _ _ _ _ _ _ _ _ _ _ _ _ _ _ _ _ _ _ _ _ _ _ _ _ _ _ _ _ _ _ _ _ _ _ _ _ _ _ _ _ _ _ _ _ _ _ _ _ _ _ _ _ _ _ _ _ _ _ _ _ _ _ _ _ _ _ _ _ _ _ _ _ _ _ _ _ _ _ _ _ _ _ _ _ _ _ _ _ _ _ _ _ _ _ _ _ _ _ _ _ _ _ _ _ _ _ _ _ _ _ _ _ _ _ _ _ _ _ _ _ _ _ _ _ _ _ _ _ _ _ _ _ _ _ _ _ _ _ _ _ _ _ _ _ _ _ _ _ _ _ _ _ _ _ _ wr ii0 ii1 RO.out RT.out rfl rfl C8 (hidden ?_)
          intro wv hbv
          have HBV := hidden (bl_trans HBW.out hbv)
          clear hbv C8 RO RT STX HBW
          go_wp2_with fail
          go_roundw
          case rel => exact ⟨i + 1, by omega, by go_num, HBV⟩
          case measure => simp [intOf]; omega
        · have hin : N = i := by omega
          subst hin
          have lq : ¬ (N : Int) < (N : Int) := by omega
          clear hi
          have MX3 := hidden (MX2.out.keep HBW.out)
          replace OA := hidden (own_keepX OA.out HBW.out)
          replace OB := hidden (own_keepX OB.out HBW.out)
          replace OC := hidden (own_keepX OC.out HBW.out)
          replace OD := hidden (own_keepX OD.out HBW.out)
          clear MX2 HBW
          have CA := hidden (fun x => vis_any a x); have CR := hidden (fun x => vis_any r x); have CQ := hidden (fun x => vis_any s x); have CT := hidden (fun x => vis_any t x)
          simp only [E4.v] at CA CR CQ CT
          have CS := hidden (fun x (h1 : In x (.slice p1 n k1) n g1) (h2 : In x (.slice p3 n k3) n g1) => sameNums_any (.slice p1 n k1) (.slice p3 n k3) n g1 x Hn.out h1 h2)
          have CU := hidden (fun x (h1 : In x (.slice p2 n k2) n g2) (h2 : In x (.slice p4 n k4) n g2) => sameNums_any (.slice p2 n k2) (.slice p4 n k4) n g2 x Hn.out h1 h2)
          have r_c := (MX3.out.r (T8, tc a r s t (.slice p1 n k1) (.slice p2 n k2)) (by simp)).1
          have c0 := r_c 0 _ rfl
          have c1 := r_c 1 _ rfl
          have c2 := r_c 2 _ rfl
          have c3 := r_c 3 _ rfl
          simp only [Nat.zero_add] at c0 c1 c2 c3
          clear r_c
          have r_d := (MX3.out.r (T10, tc a r s t (.slice p3 n k3) (.slice p4 n k4)) (by simp)).1
          have d0 := r_d 0 _ rfl
          have d1 := r_d 1 _ rfl
          have d2 := r_d 2 _ rfl
          have d3 := r_d 3 _ rfl
          simp only [Nat.zero_add] at d0 d1 d2 d3
          clear r_d
          go_upto_region 17 with (first | (go_at_call 9; refine (CA.out _).mono ?_; rintro e wk0 ⟨rfl, hb⟩; replace MX3 := hidden (MX3.out.keep hb); replace OA := hidden (own_keepX OA.out hb); replace OB := hidden (own_keepX OB.out hb); replace OC := hidden (own_keepX OC.out hb); replace OD := hidden (own_keepX OD.out hb); clear hb CA c0 c1 c2 c3 d0 d1 d2 d3; have r_c := (MX3.out.r (T8, tc a r s t (.slice p1 n k1) (.slice p2 n k2)) (by simp)).1; have c0 := r_c 4 _ rfl; have c1 := r_c 5 _ rfl; have c2 := r_c 6 _ rfl; have c3 := r_c 7 _ rfl; simp only [Nat.zero_add] at c0 c1 c2 c3; clear r_c; have r_d := (MX3.out.r (T10, tc a r s t (.slice p3 n k3) (.slice p4 n k4)) (by simp)).1; have d0 := r_d 4 _ rfl; have d1 := r_d 5 _ rfl; have d2 := r_d 6 _ rfl; have d3 := r_d 7 _ rfl; simp only [Nat.zero_add] at d0 d1 d2 d3; clear r_d) | (go_at_call 9; refine (CR.out _).mono ?_; rintro e wk1 ⟨rfl, hb⟩; replace MX3 := hidden (MX3.out.keep hb); replace OA := hidden (own_keepX OA.out hb); replace OB := hidden (own_keepX OB.out hb); replace OC := hidden (own_keepX OC.out hb); replace OD := hidden (own_keepX OD.out hb); clear hb CR c0 c1 c2 c3 d0 d1 d2 d3; have r_c := (MX3.out.r (T8, tc a r s t (.slice p1 n k1) (.slice p2 n k2)) (by simp)).1; have c0 := r_c 8 _ rfl; have c1 := r_c 9 _ rfl; have c2 := r_c 10 _ rfl; have c3 := r_c 11 _ rfl; simp only [Nat.zero_add] at c0 c1 c2 c3; clear r_c; have r_d := (MX3.out.r (T10, tc a r s t (.slice p3 n k3) (.slice p4 n k4)) (by simp)).1; have d0 := r_d 8 _ rfl; have d1 := r_d 9 _ rfl; have d2 := r_d 10 _ rfl; have d3 := r_d 11 _ rfl; simp only [Nat.zero_add] at d0 d1 d2 d3; clear r_d) | (go_at_call 9; refine (CQ.out _).mono ?_; rintro e wk2 ⟨rfl, hb⟩; replace MX3 := hidden (MX3.out.keep hb); replace OA := hidden (own_keepX OA.out hb); replace OB := hidden (own_keepX OB.out hb); replace OC := hidden (own_keepX OC.out hb); replace OD := hidden (own_keepX OD.out hb); clear hb CQ c0 c1 c2 c3 d0 d1 d2 d3; have r_c := (MX3.out.r (T8, tc a r s t (.slice p1 n k1) (.slice p2 n k2)) (by simp)).1; have c0 := r_c 12 _ rfl; have c1 := r_c 13 _ rfl; have c2 := r_c 14 _ rfl; have c3 := r_c 15 _ rfl; simp only [Nat.zero_add] at c0 c1 c2 c3; clear r_c; have r_d := (MX3.out.r (T10, tc a r s t (.slice p3 n k3) (.slice p4 n k4)) (by simp)).1; have d0 := r_d 12 _ rfl; have d1 := r_d 13 _ rfl; have d2 := r_d 14 _ rfl; have d3 := r_d 15 _ rfl; simp only [Nat.zero_add] at d0 d1 d2 d3; clear r_d) | (go_at_call 9; refine (CT.out _).mono ?_; rintro e wk3 ⟨rfl, hb⟩; replace MX3 := hidden (MX3.out.keep hb); replace OA := hidden (own_keepX OA.out hb); replace OB := hidden (own_keepX OB.out hb); replace OC := hidden (own_keepX OC.out hb); replace OD := hidden (own_keepX OD.out hb); clear hb CT c0 c1 c2 c3 d0 d1 d2 d3; have r_c := (MX3.out.r (T8, tc a r s t (.slice p1 n k1) (.slice p2 n k2)) (by simp)).1; have c0 := r_c 16 _ rfl; simp only [Nat.zero_add] at c0; clear r_c; have r_d := (MX3.out.r (T10, tc a r s t (.slice p3 n k3) (.slice p4 n k4)) (by simp)).1; have d0 := r_d 16 _ rfl; simp only [Nat.zero_add] at d0; clear r_d) | (go_at_call 10; refine (CS.out _ (own_in OA.out) (own_in OC.out)).mono ?_; rintro e wk4 ⟨rfl, hb⟩; replace MX3 := hidden (MX3.out.keep hb); replace OA := hidden (own_keepX OA.out hb); replace OB := hidden (own_keepX OB.out hb); replace OC := hidden (own_keepX OC.out hb); replace OD := hidden (own_keepX OD.out hb); clear hb CS c0 d0; have r_c := (MX3.out.r (T8, tc a r s t (.slice p1 n k1) (.slice p2 n k2)) (by simp)).1; have c0 := r_c 17 _ rfl; simp only [Nat.zero_add] at c0; clear r_c; have r_d := (MX3.out.r (T10, tc a r s t (.slice p3 n k3) (.slice p4 n k4)) (by simp)).1; have d0 := r_d 17 _ rfl; simp only [Nat.zero_add] at d0; clear r_d) | (go_at_call 10; refine (CU.out _ (own_in OB.out) (own_in OD.out)).mono ?_; rintro e wk5 ⟨rfl, hb⟩; replace MX3 := hidden (MX3.out.keep hb); replace OA := hidden (own_keepX OA.out hb); replace OB := hidden (own_keepX OB.out hb); replace OC := hidden (own_keepX OC.out hb); replace OD := hidden (own_keepX OD.out hb); clear hb CU c0 d0))
          have cp := PBA.out.keep MX3.out.bel
          have cp0 := cp.c0
          have cp1 := cp.c1
          clear cp
          have BK : Hid (wa.heap.size ≤ wk5.heap.size) := hidden MX3.out.bel.size
          have LA := hidden (fun k hk => (OA.out.lt k hk).2)
          have LB := hidden (fun k hk => (OB.out.lt k hk).2)
          go_upto_region 18 with (first | (go_at_call 6; refine (HWP.out _ _ _ _ (TBA.out.keep MX3.out.bel) (TSO.out.keep MX3.out.bel)).mono ?_; rintro e wx3 ⟨p5, k5, p6, k6, rfl, o1, o2, dj, hb⟩; have MX4a := hidden (MX3.out.keep hb); replace OA := hidden (own_keepX OA.out hb); replace OB := hidden (own_keepX OB.out hb); replace OC := hidden (own_keepX OC.out hb); replace OD := hidden (own_keepX OD.out hb); have OE := hidden o1; have OF := hidden o2; have DE := hidden dj; clear o1 o2 dj hb MX3 cp0 cp1) | (refine wpList_ptalloc rfl rfl ?_; have MX4b := hidden (MX4a.out.new tz 31); have LBT10 : Hid (T10 < wx3.heap.size) := hidden (MX4a.out.r (T10, tc a r s t (.slice p3 n k3) (.slice p4 n k4)) (by simp)).2.2.2; have LBT8 : Hid (T8 < wx3.heap.size) := hidden (MX4a.out.r (T8, tc a r s t (.slice p1 n k1) (.slice p2 n k2)) (by simp)).2.2.2; have LTOA := hidden (fun k hk => (OA.out.lt k hk).2); replace OA := hidden (own_keepX OA.out (bl_alloc wx3 (.cells tz.toArray 31)));  have LTOB := hidden (fun k hk => (OB.out.lt k hk).2); replace OB := hidden (own_keepX OB.out (bl_alloc wx3 (.cells tz.toArray 31)));  have LTOC := hidden (fun k hk => (OC.out.lt k hk).2); replace OC := hidden (own_keepX OC.out (bl_alloc wx3 (.cells tz.toArray 31)));  have LTOD := hidden (fun k hk => (OD.out.lt k hk).2); replace OD := hidden (own_keepX OD.out (bl_alloc wx3 (.cells tz.toArray 31)));  have LTOE := hidden (fun k hk => (OE.out.lt k hk).2); replace OE := hidden (own_keepX OE.out (bl_alloc wx3 (.cells tz.toArray 31)));  have LTOF := hidden (fun k hk => (OF.out.lt k hk).2); replace OF := hidden (own_keepX OF.out (bl_alloc wx3 (.cells tz.toArray 31))); clear MX4a; generalize World.alloc _ _ = wy3 at *; generalize wx3.heap.size = T13 at *) | (refine wpList_storeL rfl 31 _ _ rfl rfl T13 0 (tc a r s t (.slice p5 n k5) (.slice p6 n k6)) (by rfl) (by rfl) (MX4b.out.ther (tc a r s t (.slice p5 n k5) (.slice p6 n k6)) (c := T13) (o := tz) (by simp) rfl) ptinfo (tc_one _ _ _ _ _ _ _ _ _ _) ?_; have MX4 := hidden (MX4b.out.set (M := [(T10, tc a r s t (.slice p3 n k3) (.slice p4 n k4)), (T8, tc a r s t (.slice p1 n k1) (.slice p2 n k2))]) (tc a r s t (.slice p5 n k5) (.slice p6 n k6)) (c := T13) (o := tz) (by simp) rfl (by have hT10 := LBT10.out; have hT8 := LBT8.out; simp; omega)); replace OA := hidden (own_setCells OA.out T13 0 (tc a r s t (.slice p5 n k5) (.slice p6 n k6)) (fun e => Nat.lt_irrefl _ (LTOA.out _ e))); clear LTOA; replace OB := hidden (own_setCells OB.out T13 0 (tc a r s t (.slice p5 n k5) (.slice p6 n k6)) (fun e => Nat.lt_irrefl _ (LTOB.out _ e))); clear LTOB; replace OC := hidden (own_setCells OC.out T13 0 (tc a r s t (.slice p5 n k5) (.slice p6 n k6)) (fun e => Nat.lt_irrefl _ (LTOC.out _ e))); clear LTOC; replace OD := hidden (own_setCells OD.out T13 0 (tc a r s t (.slice p5 n k5) (.slice p6 n k6)) (fun e => Nat.lt_irrefl _ (LTOD.out _ e))); clear LTOD; replace OE := hidden (own_setCells OE.out T13 0 (tc a r s t (.slice p5 n k5) (.slice p6 n k6)) (fun e => Nat.lt_irrefl _ (LTOE.out _ e))); clear LTOE; replace OF := hidden (own_setCells OF.out T13 0 (tc a r s t (.slice p5 n k5) (.slice p6 n k6)) (fun e => Nat.lt_irrefl _ (LTOF.out _ e))); clear LTOF; clear MX4b LBT10 LBT8; generalize World.setCells _ T13 0 (tc a r s t (.slice p5 n k5) (.slice p6 n k6)) = wz3 at *))
          have CS := hidden (fun x (h1 : In x (.slice p5 n k5) n g1) (h2 : In x (.slice p3 n k3) n g1) => sameNums_any (.slice p5 n k5) (.slice p3 n k3) n g1 x Hn.out h1 h2)
          have CU := hidden (fun x (h1 : In x (.slice p6 n k6) n g2) (h2 : In x (.slice p4 n k4) n g2) => sameNums_any (.slice p6 n k6) (.slice p4 n k4) n g2 x Hn.out h1 h2)
          have D02 : Hid (Dj (.slice p1 n k1) (.slice p5 n k5)) := hidden (fun k hk e => by have h1 := LA.out k hk; have h2 := (OE.out.lt k e).1; omega)
          have D03 : Hid (Dj (.slice p1 n k1) (.slice p6 n k6)) := hidden (fun k hk e => by have h1 := LA.out k hk; have h2 := (OF.out.lt k e).1; omega)
          have D12 : Hid (Dj (.slice p2 n k2) (.slice p5 n k5)) := hidden (fun k hk e => by have h1 := LB.out k hk; have h2 := (OE.out.lt k e).1; omega)
          have D13 : Hid (Dj (.slice p2 n k2) (.slice p6 n k6)) := hidden (fun k hk e => by have h1 := LB.out k hk; have h2 := (OF.out.lt k e).1; omega)
          replace OE := hidden (own_mono (base' := wa.heap.size) OE.out BK.out)
          replace OF := hidden (own_mono (base' := wa.heap.size) OF.out BK.out)
          have r_c := (MX4.out.r (T13, tc a r s t (.slice p5 n k5) (.slice p6 n k6)) (by simp)).1
          have c0 := r_c 16 _ rfl
          simp only [Nat.zero_add] at c0
          clear r_c
          have r_d := (MX4.out.r (T10, tc a r s t (.slice p3 n k3) (.slice p4 n k4)) (by simp)).1
          have d0 := r_d 16 _ rfl
          simp only [Nat.zero_add] at d0
          clear r_d
          go_upto_region 20 with (first | (go_at_call 10; refine (CS.out _ (own_in OE.out) (own_in OC.out)).mono ?_; rintro e wk6 ⟨rfl, hb⟩; replace MX4 := hidden (MX4.out.keep hb); replace OA := hidden (own_keepX OA.out hb); replace OB := hidden (own_keepX OB.out hb); replace OC := hidden (own_keepX OC.out hb); replace OD := hidden (own_keepX OD.out hb); replace OE := hidden (own_keepX OE.out hb); replace OF := hidden (own_keepX OF.out hb); clear hb CS c0 d0; have r_c := (MX4.out.r (T13, tc a r s t (.slice p5 n k5) (.slice p6 n k6)) (by simp)).1; have c0 := r_c 17 _ rfl; simp only [Nat.zero_add] at c0; clear r_c; have r_d := (MX4.out.r (T10, tc a r s t (.slice p3 n k3) (.slice p4 n k4)) (by simp)).1; have d0 := r_d 17 _ rfl; simp only [Nat.zero_add] at d0; clear r_d) | (go_at_call 10; refine (CU.out _ (own_in OF.out) (own_in OD.out)).mono ?_; rintro e wk7 ⟨rfl, hb⟩; replace MX4 := hidden (MX4.out.keep hb); replace OA := hidden (own_keepX OA.out hb); replace OB := hidden (own_keepX OB.out hb); replace OC := hidden (own_keepX OC.out hb); replace OD := hidden (own_keepX OD.out hb); replace OE := hidden (own_keepX OE.out hb); replace OF := hidden (own_keepX OF.out hb); clear hb CU c0 d0; have r_c := (MX4.out.r (T8, tc a r s t (.slice p1 n k1) (.slice p2 n k2)) (by simp)).1; have c0 := r_c 16 _ rfl; have c1 := r_c 17 _ rfl; simp only [Nat.zero_add] at c0 c1; clear r_c; have r_d := (MX4.out.r (T13, tc a r s t (.slice p5 n k5) (.slice p6 n k6)) (by simp)).1; have d0 := r_d 16 _ rfl; have d1 := r_d 17 _ rfl; simp only [Nat.zero_add] at d0 d1; clear r_d; have BB := hidden (fun (v : Value) (n : Nat) (xs : List Value) (h : wk7.ownsRow wa.heap.size 28 4 v n xs) (e : v.ownBlock = some wk7.heap.size) => Nat.lt_irrefl _ (h.lt _ e).2); have AB := hidden (bl_alloc wk7 (.cells #[.slice p1 n k1, .slice p2 n k2, .slice p5 n k5, .slice p6 n k6] 29))) | (go_at_call 11; refine (four_apart wa _ wk7.heap.size 4 n p1 p2 p5 p6 k1 k2 k5 k6 g1 g2 Hn.out (bl_trans MX4.out.bel AB.out) (by go_simp) (by go_simp) (by go_simp) (by go_simp) (own_keepX OA.out AB.out) (own_keepX OB.out AB.out) (own_keepX OE.out AB.out) (own_keepX OF.out AB.out) DA.out DE.out D02.out D03.out D12.out D13.out (BB.out _ _ _ OA.out) (BB.out _ _ _ OB.out) (BB.out _ _ _ OE.out) (BB.out _ _ _ OF.out)).mono ?_; rintro e wq ⟨rfl, hb⟩; have BQ := hidden hb; clear hb MX4 OA OB OC OD OE OF DA DC DE D02 D03 D12 D13 BB AB LA LB BK c0 c1 d0 d1))
          go_wp2_with fail
          go_loopw [15] (fun iv w' => ∃ i : Nat, i ≤ N ∧ iv = .int .i64 i ∧ Hid (Below wq.heap.size wq w')) (fun i _ => N - (intOf i).toNat)
          case atStart => exact ⟨0, by omega, rfl, hidden (Below.refl _ _)⟩
          case round =>
            obtain ⟨i, hi, rfl, HBW⟩ := hrel
            by_cases hin : i < N
            · have ii0 : (0 : Int) ≤ (i : Int) := by omega
              have ii1 : (i : Int) < (N : Int) := by omega
              have w9 : IntKind.i64.wrap ((i : Int) + 1) = (i : Int) + 1 := IntWalk.i64_in _ (by have := HN.out; omega)
              have STX := hidden (ST0.out.keep (below_transI BQ.out (bl_mono HBW.out (BQ.out).size)))
              obtain ⟨P', c', e', hl, hi2⟩ := HV.out.keep STX.out.bel
              simp only [Value.slice.injEq, true_and] at e'
              obtain ⟨rfl, rfl⟩ := e'
              obtain ⟨bt, ot, rfl, hr⟩ := hl (by omega)
              obtain ⟨P2, c2, e2, hl2⟩ := rows_of_own STX.out.vo (fun _ _ => rfl)
              simp only [Value.slice.injEq, true_and] at e2
              obtain ⟨rfl, rfl⟩ := e2
              obtain ⟨bo, oo, rfl, hr2⟩ := hl2 (by omega)
              have QK := hidden (HQ.out i hin)
              have C8 : Hid (∀ x, Below wr.heap.size wr x → Calls Tryd.prog 8 #[.agg (tc (q i).a (q i).r (q i).s (q i).t (cut (L i)) (cut (R i))).toArray, .agg (tc (q i).a (q i).r (q i).s (q i).t (L0 i) (R0 i)).toArray] x fun e w' => e = .returned (.bool true) ∧ Below x.heap.size x w') := hidden (fun x hx => (STX.out.keep hx).stays hin (fun _ _ => rfl) QK.out ((hi2 i hin).1.keep hx) ((hi2 i hin).2.keep hx))
              have RO := hidden (hr2 i hin)
              have RT := hidden (hr i hin)
              clear hl hr hi2 hl2 hr2
              go_upto_region 23 with fail
              refine lw23 _ bo oo _ bt ot _ N i (tc (q i).a (q i).r (q i).s (q i).t (cut (L i)) (cut (R i))) (tc (q i).a (q i).r (q i).s (q i).t (L0 i) (R0 i)) _ _ _ _ _ _ _ _ _ _ _ _ _ _ _ _ _ _ _ _ _ _ _ _ _ _ _ _ _ _ _ _ _ _ _ _ _ _ _ _ _ _ _ _ _ _ _ _ _ _ _ _ _ _ _ _ _ _ _ _ _ _ _ _ _ _ _ _ _ _ _ _ _ _ _ _ _ _ _ _ _ _ _ _ _ _ _ _ _ _ _ _ _ _ _ _ _ _ _ _ _ _ _ _ _ _ _ _ _ _ _ _ _ _ _ _ _ _ _ _ _ _ _ _ _ _ _ _ _ _ _ _ _ _ _ _ _ _ _ _ _ _ _ _ _ _ _ _ _ _ _ _ _ _ _ _ _ _ _ _ _ _ _ _ _ _ _ _ _ _ _ _ _ _ _ _ _ _ _ _ _ _ _ _ _ _ _ _ _ _ _ _ _ _ _ _ _ _ _ _ _ _ _ _ _ _ _ _ _ _ _ _ _ _ _ _ _ _ _ _ _ _ _ _ _ _ _ _ _ _ _ _ _ _ _ _ _ _ _ _ _ _ _ _ _ _ _ _ _ wr ii0 ii1 RO.out RT.out rfl rfl C8 (hidden ?_)
              intro wv hbv
              have HBV := hidden (bl_trans HBW.out hbv)
              clear hbv C8 RO RT STX HBW
              go_wp2_with fail
              go_roundw
              case rel => exact ⟨i + 1, by omega, by go_num, HBV⟩
              case measure => simp [intOf]; omega
            · have hin : N = i := by omega
              subst hin
              have lq : ¬ (N : Int) < (N : Int) := by omega
              clear hi
              have BZ := hidden (below_transI BQ.out (bl_mono HBW.out BQ.out.size))
              have STW : Hid (ST w1 q N N L R K J (.slice pO N cO) (.slice pI N cI) (fo q 0 0) (fi q 0 0) wr) := hidden ((ST0.out.keep BZ.out).congr (fun i hi k hk => by unfold fo; rw [if_neg (by omega)]) (fun i hi k hk => by unfold fi; rw [if_neg (by omega)]))
              clear BQ HBW BZ HWP HWD Hn TSO TSD TBA PBA
              go_wp2_with fail
              go_loopw [16] (fun iv w' => ∃ i : Nat, i ≤ N ∧ iv = .int .i64 i ∧ Hid (ST w1 q N N L R K J (.slice pO N cO) (.slice pI N cI) (fo q i 0) (fi q i 0) w')) (fun i _ => N - (intOf i).toNat)
              case atStart => exact ⟨0, by omega, rfl, STW⟩
              case round =>
                clear STW
                obtain ⟨i, hi, rfl, STW⟩ := hrel
                by_cases hin : i < N
                · have ii0 : (0 : Int) ≤ (i : Int) := by omega
                  have ii1 : (i : Int) < (N : Int) := by omega
                  have w9 : IntKind.i64.wrap ((i : Int) + 1) = (i : Int) + 1 := IntWalk.i64_in _ (by have := HN.out; omega)
                  obtain ⟨bl, cl, b2, c2, eL, eC, hc1, hbl, -, -, -, -, -⟩ := STW.out.ll.cut hin
                  have EL := hidden eL
                  have EC := hidden eC
                  have QK := hidden (HQ.out i hin)
                  obtain ⟨P2, c3, e2, hl2⟩ := rows_of_own STW.out.vo (fun _ _ => rfl)
                  simp only [Value.slice.injEq, true_and] at e2
                  obtain ⟨rfl, rfl⟩ := e2
                  obtain ⟨bo, oo, rfl, -⟩ := hl2 (by omega)
                  obtain ⟨P3, c4, e3, hl3⟩ := rows_of_own STW.out.vi (fun _ _ => rfl)
                  simp only [Value.slice.injEq, true_and] at e3
                  obtain ⟨rfl, rfl⟩ := e3
                  obtain ⟨bd, od, rfl, -⟩ := hl3 (by omega)
                  obtain ⟨n0, hn0⟩ : ∃ n0, (q i).n = n0 := ⟨_, rfl⟩
                  have EN := hidden hn0
                  have N0 : Hid (n0 ≤ 4398046510976) := hidden (by rw [← hn0]; exact QK.out.2.2.2.2.2.2.1)
                  clear eL eC hl2 hl3 hc1 hbl hn0
                  have OCEL : Hid (∀ x f d, ST w1 q N N L R K J (.slice (some ⟨bo, oo, none⟩) N cO) (.slice (some ⟨bd, od, none⟩) N cI) f d x → x.cell? ⟨bo, oo + i * 18 + 16, none⟩ = some (.slice (some ⟨bl, 0, none⟩) n0 cl)) := hidden (fun x f d h => by
                    obtain ⟨P2, c3, e2, hl2⟩ := rows_of_own h.vo (fun _ _ => rfl)
                    simp only [Value.slice.injEq, true_and] at e2
                    obtain ⟨rfl, rfl⟩ := e2
                    obtain ⟨bo', oo', e4, hr⟩ := hl2 (by omega)
                    cases e4
                    have := hr i hin 16 _ rfl
                    rw [EC.out, EN.out] at this
                    exact this)
                  have oc := OCEL.out _ _ _ STW.out
                  go_wp2_with fail
                  go_loopw [17] (fun kv w' => ∃ k : Nat, k ≤ n0 ∧ kv = .int .i64 k ∧ Hid (ST w1 q N N L R K J (.slice (some ⟨bo, oo, none⟩) N cO) (.slice (some ⟨bd, od, none⟩) N cI) (fo q i k) (fi q i k) w')) (fun k _ => n0 - (intOf k).toNat)
                  case atStart => exact ⟨0, by omega, rfl, STW⟩
                  case round =>
                    clear STW oc
                    obtain ⟨k, hk, rfl, STK⟩ := hrel
                    have oc := OCEL.out _ _ _ STK.out
                    by_cases hkn : k < n0
                    · have kk0 : (0 : Int) ≤ (k : Int) := by omega
                      have kk1 : (k : Int) < (n0 : Int) := by omega
                      have wk9 : IntKind.i64.wrap ((k : Int) + 1) = (k : Int) + 1 := IntWalk.i64_in _ (by have := N0.out; omega)
                      have wu : IntKind.u64.wrap (k : Int) = (k : Int) := by rw [IntKind.wrap_u64]; have := N0.out; omega
                      have wu1 : IntKind.u64.wrap ((k : Int) + 1) = (k : Int) + 1 := by rw [IntKind.wrap_u64]; have := N0.out; omega
                      have HKN := hidden hkn
                      have gok := QK.out.2.2.2.2.1 k (by rw [EN.out]; exact hkn)
                      have WDk : Sm.Wd ((k : Int) + 1) := by unfold Sm.Wd; have := N0.out; omega
                      have hlr := STK.out.ll.l i hin
                      rw [EL.out, EN.out] at hlr
                      have ef : fo q i k i k = (q i).g k := by unfold fo; rw [if_neg (by omega)]; unfold mk; rw [if_neg (by rw [EN.out]; omega)]
                      have zr := rlo_range (own_rlo hlr) (by omega : k < n0 + 1)
                      rw [ef] at zr
                      have th := own_there4 hlr (by omega : k < n0 + 1)
                      have ne : bo ≠ bl := fun e => by
                        rcases own_ne STK.out.vo hlr (by decide) with h | h
                        · simp [Value.ownBlock] at h
                        · exact h (by rw [e]; rfl)
                      have CI : Hid (∀ x, Calls Tryd.prog 13 #[.int .u64 ((k : Int) + 1)] x fun e w' => e = .returned (lst ((k : Int) + 1)).v ∧ Below x.heap.size x w') := hidden (fun x => fix (Int_any _ x WDk) rfl)
                      have CAd : Hid (∀ x, wr.grownBy x (some bl) → Calls Tryd.prog 12 #[((q i).g k).v, (lst ((k : Int) + 1)).v] x fun e w' => e = .returned (lst (((q i).g k).n + ((k : Int) + 1))).v ∧ Below x.heap.size x w') := hidden (fun x hx => fix (Add_any _ _ x (HT.out.keep (below_transI STK.out.bel (bl_grown hx STK.out.bel.size (fun y hy => by have h1 : bl = y := Option.some.inj hy; rw [← h1]; exact (hlr.lt bl rfl).1)))) gok (lst_ok _)) (lst_add' _ _))
                      have CJ : Hid (∀ x, Calls Tryd.prog 15 #[.int .u64 ((k : Int) + 1)] x fun e w' => e = .returned (lst ((k : Int) + 1)).v ∧ Below x.heap.size x w') := hidden (fun x => by have := rInt_any ((k : Int) + 1) x; rw [← int_is _ WDk] at this; exact this)
                      have CB : Hid (∀ x : World, Calls Tryd.prog 14 #[(lst ((q i).g k).n).v, (lst ((k : Int) + 1)).v] x fun e w' => e = .returned (lst (((q i).g k).n + ((k : Int) + 1))).v ∧ Below x.heap.size x w') := hidden (fun x => rAdd_any _ _ x)
                      have PUT : Hid (∀ wy, Below wr.heap.size wr wy → ST w1 q N N L R K J (.slice (some ⟨bo, oo, none⟩) N cO) (.slice (some ⟨bd, od, none⟩) N cI) (fun j x => if j = i ∧ x = k then lst (((q i).g k).n + ((k : Int) + 1)) else fo q i k j x) (fi q i k) (setS wy bl (k * 4) (lst (((q i).g k).n + ((k : Int) + 1))))) := hidden (fun wy hy => (STK.out.keep hy).put hin (by rw [EN.out]; exact hkn) EL.out _)
                      have NXT : Hid (∀ wy, ST w1 q N N L R K J (.slice (some ⟨bo, oo, none⟩) N cO) (.slice (some ⟨bd, od, none⟩) N cI) (fun j x => if j = i ∧ x = k then lst (((q i).g k).n + ((k : Int) + 1)) else fo q i k j x) (fun j x => if j = i ∧ x = k then lst (((q i).g k).n + ((k : Int) + 1)) else fi q i k j x) wy → ST w1 q N N L R K J (.slice (some ⟨bo, oo, none⟩) N cO) (.slice (some ⟨bd, od, none⟩) N cI) (fo q i (k + 1)) (fi q i (k + 1)) wy) := hidden (fun wy h => h.congr (fun j hj x hx => by
                          unfold fo
                          by_cases hc : j = i ∧ x = k
                          · obtain ⟨rfl, rfl⟩ := hc
                            rw [if_pos ⟨rfl, rfl⟩, if_pos ⟨by rw [EN.out]; exact hkn, .inr ⟨rfl, by omega⟩⟩]
                          · rw [if_neg hc]
                            by_cases h2 : x < (q j).n ∧ (j < i ∨ (j = i ∧ x < k))
                            · rw [if_pos h2, if_pos ⟨h2.1, by omega⟩]
                            · rw [if_neg h2, if_neg (by omega)]) (fun j hj x hx => by
                          unfold fi
                          by_cases hc : j = i ∧ x = k
                          · obtain ⟨rfl, rfl⟩ := hc
                            rw [if_pos ⟨rfl, rfl⟩, if_pos (.inr ⟨rfl, by omega⟩)]
                          · rw [if_neg hc]
                            by_cases h2 : j < i ∨ (j = i ∧ x < k)
                            · rw [if_pos h2, if_pos (by omega)]
                            · rw [if_neg h2, if_neg (by omega)]))
                      have ei : fi q i k i k = lst ((q i).g k).n := by unfold fi; rw [if_neg (by omega)]
                      have EI := hidden ei
                      generalize lst (((q i).g k).n + ((k : Int) + 1)) = rr at *
                      have NE := hidden ne
                      have ZR := hidden zr
                      have TH := hidden th
                      clear ef hlr zr th ne gok WDk ei
                      simp only [E4.v] at CI CAd CJ CB
                      go_upto_region 31 with fail
                      refine lw31 _ bo oo cO bl n0 cl N i k ((q i).g k) (lst ((k : Int) + 1)) rr _ _ _ _ _ _ _ _ _ _ _ _ _ _ _ _ _ _ _ _ _ _ _ _ _ _ _ _ _ _ _ _ _ _ _ _ _ _ _ _ _ _ _ _ _ _ _ _ _ _ _ _ _ _ _ _ _ _ _ _ _ _ _ _ _ _ _ _ _ _ _ _ _ _ _ _ _ _ _ _ _ _ _ _ _ _ _ _ _ _ _ _ _ _ _ _ _ _ _ _ _ _ _ _ _ _ _ _ _ _ _ _ _ _ _ _ _ _ _ _ _ _ _ _ _ _ _ _ _ _ _ _ _ _ _ _ _ _ _ _ _ _ _ _ _ _ _ _ _ _ _ _ _ _ _ _ _ _ _ _ _ _ _ _ _ _ _ _ _ _ _ _ _ _ _ _ _ _ _ _ _ _ _ _ _ _ _ _ _ _ _ _ _ _ _ _ _ _ _ _ _ _ _ _ _ _ _ _ _ _ _ _ _ _ _ _ _ _ _ _ _ _ _ _ _ _ _ _ _ _ _ _ _ _ _ _ _ _ _ _ _ _ _ _ _ _ _ _ _ wr ii0 ii1 kk0 kk1 wu wu1 oc NE.out ZR.out TH.out CI CAd (hidden ?_)
                      rintro wz9 ⟨wy9, hy9, rfl⟩
                      have STP := PUT.out wy9 hy9
                      rw [← setS_cells] at STP
                      have ST9 := hidden STP
                      clear STP hy9 PUT CI CAd oc NE ZR TH STK
                      generalize wy9.setCells bl (k * 4) [.int .u64 rr.x0, .int .u64 rr.x1, .int .u64 rr.x2, .int .u64 rr.x3] = w8 at *
                      have hkr := ST9.out.dl.l i hin
                      obtain ⟨bk, ck, ek, -⟩ := own_some4 hkr (by rw [EN.out]; omega)
                      have EK := hidden ek
                      rw [ek, EN.out] at hkr
                      have zr := rlo_range (own_rlo hkr) hkn
                      rw [EI.out] at zr
                      have ZR := hidden zr
                      have TH := hidden (own_there4 hkr hkn)
                      have NE : Hid (bd ≠ bk) := hidden (fun e => by
                        rcases own_ne ST9.out.vi hkr (by decide) with h | h
                        · simp [Value.ownBlock] at h
                        · exact h (by rw [e]; rfl))
                      have DCEL : w8.cell? ⟨bd, od + i * 18 + 16, none⟩ = some (.slice (some ⟨bk, 0, none⟩) n0 ck) := by
                        obtain ⟨P2, c3, e2, hl2⟩ := rows_of_own ST9.out.vi (fun _ _ => rfl)
                        simp only [Value.slice.injEq, true_and] at e2
                        obtain ⟨rfl, rfl⟩ := e2
                        obtain ⟨bd', od', e4, hr⟩ := hl2 (by omega)
                        cases e4
                        have := hr i hin 16 _ rfl
                        rw [ek, EN.out] at this
                        exact this
                      have PUT : Hid (∀ wy, Below w8.heap.size w8 wy → ST w1 q N N L R K J (.slice (some ⟨bo, oo, none⟩) N cO) (.slice (some ⟨bd, od, none⟩) N cI) (fun j x => if j = i ∧ x = k then rr else fo q i k j x) (fun j x => if j = i ∧ x = k then rr else fi q i k j x) (setS wy bk (k * 4) rr)) := hidden (fun wy hy => (ST9.out.keep hy).putd hin (by rw [EN.out]; exact HKN.out) EK.out _)
                      clear ek hkr zr ST9
                      go_upto_region 32 with fail
                      refine lw32 _ bd od cI bk n0 ck N i k (lst ((q i).g k).n) (lst ((k : Int) + 1)) rr _ _ _ _ _ _ _ _ _ _ _ _ _ _ _ _ _ _ _ _ _ _ _ _ _ _ _ _ _ _ _ _ _ _ _ _ _ _ _ _ _ _ _ _ _ _ _ _ _ _ _ _ _ _ _ _ _ _ _ _ _ _ _ _ _ _ _ _ _ _ _ _ _ _ _ _ _ _ _ _ _ _ _ _ _ _ _ _ _ _ _ _ _ _ _ _ _ _ _ _ _ _ _ _ _ _ _ _ _ _ _ _ _ _ _ _ _ _ _ _ _ _ _ _ _ _ _ _ _ _ _ _ _ _ _ _ _ _ _ _ _ _ _ _ _ _ _ _ _ _ _ _ _ _ _ _ _ _ _ _ _ _ _ _ _ _ _ _ _ _ _ _ _ _ _ _ _ _ _ _ _ _ _ _ _ _ _ _ _ _ _ _ _ _ _ _ _ _ _ _ _ _ _ _ _ _ _ _ _ _ _ _ _ _ _ _ _ _ _ _ _ _ _ _ _ _ _ _ _ _ _ _ _ _ _ _ _ _ _ _ _ _ _ _ _ _ _ _ _ w8 ii0 ii1 kk0 kk1 wu wu1 DCEL NE.out ZR.out TH.out CJ (hidden (fun x _ => CB.out x)) (hidden ?_)
                      rintro wz9 ⟨wy9, hy9, rfl⟩
                      have STP := PUT.out wy9 hy9
                      rw [← setS_cells] at STP
                      have STN := hidden (NXT.out _ STP)
                      clear STP hy9 PUT NXT DCEL NE ZR TH CJ CB
                      generalize wy9.setCells bk (k * 4) [.int .u64 rr.x0, .int .u64 rr.x1, .int .u64 rr.x2, .int .u64 rr.x3] = w7 at *
                      go_wp2_with fail
                      go_roundw
                      case rel => exact ⟨k + 1, by omega, by go_num, STN⟩
                      case measure => simp [intOf]; omega
                    · have hkn : n0 = k := by omega
                      subst hkn
                      have lq : ¬ (n0 : Int) < (n0 : Int) := by omega
                      have STN : Hid (ST w1 q N N L R K J (.slice (some ⟨bo, oo, none⟩) N cO) (.slice (some ⟨bd, od, none⟩) N cI) (fo q (i + 1) 0) (fi q (i + 1) 0) wr) := hidden (STK.out.congr (fun j hj x hx => by
                          unfold fo
                          by_cases h2 : x < (q j).n ∧ (j < i ∨ (j = i ∧ x < n0))
                          · rw [if_pos h2, if_pos ⟨h2.1, by omega⟩]
                          · rw [if_neg h2, if_neg (fun h3 => h2 ⟨h3.1, by
                              by_cases hji : j = i
                              · subst hji; exact .inr ⟨rfl, by have := h3.1; rw [EN.out] at this; exact this⟩
                              · omega⟩)]) (fun j hj x hx => by
                          unfold fi
                          by_cases h2 : j < i ∨ (j = i ∧ x < n0)
                          · rw [if_pos h2, if_pos (by omega)]
                          · rw [if_neg h2, if_neg (fun h3 => h2 (by
                              by_cases hji : j = i
                              · subst hji; exact .inr ⟨rfl, by rw [EN.out] at hx; exact hx⟩
                              · omega))]))
                      clear STK
                      go_wp2_with fail
                      go_roundw
                      case rel => exact ⟨i + 1, by omega, by go_num, STN⟩
                      case measure => simp [intOf]; omega
                · have hin : N = i := by omega
                  subst hin
                  have lq : ¬ (N : Int) < (N : Int) := by omega
                  clear hi
                  have okq : ∀ i, i < N → ((q i).with (fo q N 0 i)).ok := fun i hi => by
                    obtain ⟨h1, h2, h3, h4, h5, h6, h7, h8⟩ := HQ.out i hi
                    refine ⟨h1, h2, h3, h4, fun k hk => ?_, h6, h7, h8⟩
                    have hk' : k < (q i).n := hk
                    show (fo q N 0 i k).ok
                    unfold fo
                    rw [if_pos ⟨hk', .inl hi⟩]
                    exact lst_ok _
                  obtain ⟨a', r', s', t', E', n', h1, h2, hn, WP, WD⟩ := wholes_both b c N (fun i => (q i).with (fo q N 0 i)) (by have := HN.out; omega) okq
                  have HWP := hidden WP
                  have HWD := hidden WD
                  have Hn := hidden hn
                  clear okq WP WD hn
                  have TSO := hidden STW.out.ts
                  have TSD := hidden (STW.out.td (fo q N 0) (fun i hi k hk => by unfold fo fi; rw [if_pos (.inl hi), if_pos ⟨hk, .inl hi⟩, lst_n']))
                  have TBA := hidden (HT.out.keep STW.out.bel)
                  have cp := PB.out.keep STW.out.bel
                  have cp0 := cp.c0
                  have cp1 := cp.c1
                  clear cp
                  have PBA := hidden (PB.out.keep STW.out.bel)
                  have BW1 := hidden STW.out.bel
                  have MX5 := hidden (Mw.start wr)
                  clear STW
                  go_upto_region 34 with (first | (go_at_call 6; refine (HWP.out _ _ _ _ TBA.out TSO.out).mono ?_; rintro e xx ⟨p7, k7, p8, k8, rfl, o1, o2, dj, hb⟩; have MX6a := hidden (MX5.out.keep hb);  have OA := hidden o1; have OB := hidden o2; have DA := hidden dj; clear o1 o2 dj hb MX5 cp0 cp1) | (refine wpList_ptalloc rfl rfl ?_; have MX6b := hidden (MX6a.out.new tz 31);  have LTOA := hidden (fun k hk => (OA.out.lt k hk).2); replace OA := hidden (own_keepX OA.out (bl_alloc xx (.cells tz.toArray 31)));  have LTOB := hidden (fun k hk => (OB.out.lt k hk).2); replace OB := hidden (own_keepX OB.out (bl_alloc xx (.cells tz.toArray 31))); clear MX6a; generalize World.alloc _ _ = xy at *; generalize xx.heap.size = T18 at *) | (refine wpList_storeL rfl 31 _ _ rfl rfl T18 0 (tc a' r' s' t' (.slice p7 n' k7) (.slice p8 n' k8)) (by rfl) (by rfl) (MX6b.out.ther (tc a' r' s' t' (.slice p7 n' k7) (.slice p8 n' k8)) (c := T18) (o := tz) (by simp) rfl) ptinfo (tc_one _ _ _ _ _ _ _ _ _ _) ?_; have MX6 := hidden (MX6b.out.set (M := []) (tc a' r' s' t' (.slice p7 n' k7) (.slice p8 n' k8)) (c := T18) (o := tz) (by simp) rfl (by simp)); replace OA := hidden (own_setCells OA.out T18 0 (tc a' r' s' t' (.slice p7 n' k7) (.slice p8 n' k8)) (fun e => Nat.lt_irrefl _ (LTOA.out _ e))); clear LTOA; replace OB := hidden (own_setCells OB.out T18 0 (tc a' r' s' t' (.slice p7 n' k7) (.slice p8 n' k8)) (fun e => Nat.lt_irrefl _ (LTOB.out _ e))); clear LTOB; clear MX6b; generalize World.setCells _ T18 0 (tc a' r' s' t' (.slice p7 n' k7) (.slice p8 n' k8)) = xz at *))
                  have cp := PBA.out.keep MX6.out.bel
                  have cp0 := cp.c0
                  have cp1 := cp.c1
                  clear cp
                  go_upto_region 35 with (first | (go_at_call 7; refine (HWD.out _ _ _ _ (TSD.out.keep MX6.out.bel)).mono ?_; rintro e yx ⟨p9, k9, p0, k0, rfl, o1, o2, dj, hb⟩; have MX7a := hidden (MX6.out.keep hb); replace OA := hidden (own_keepX OA.out hb); replace OB := hidden (own_keepX OB.out hb); have OC := hidden o1; have OD := hidden o2; have DC := hidden dj; clear o1 o2 dj hb MX6 cp0 cp1) | (refine wpList_rtalloc rfl rfl ?_; have MX7b := hidden (MX7a.out.new tz 36); have LBT18 : Hid (T18 < yx.heap.size) := hidden (MX7a.out.r (T18, tc a' r' s' t' (.slice p7 n' k7) (.slice p8 n' k8)) (by simp)).2.2.2; have LTOA := hidden (fun k hk => (OA.out.lt k hk).2); replace OA := hidden (own_keepX OA.out (bl_alloc yx (.cells tz.toArray 36)));  have LTOB := hidden (fun k hk => (OB.out.lt k hk).2); replace OB := hidden (own_keepX OB.out (bl_alloc yx (.cells tz.toArray 36)));  have LTOC := hidden (fun k hk => (OC.out.lt k hk).2); replace OC := hidden (own_keepX OC.out (bl_alloc yx (.cells tz.toArray 36)));  have LTOD := hidden (fun k hk => (OD.out.lt k hk).2); replace OD := hidden (own_keepX OD.out (bl_alloc yx (.cells tz.toArray 36))); clear MX7a; generalize World.alloc _ _ = yy at *; generalize yx.heap.size = T20 at *) | (refine wpList_storeL rfl 36 _ _ rfl rfl T20 0 (tc a' r' s' t' (.slice p9 n' k9) (.slice p0 n' k0)) (by rfl) (by rfl) (MX7b.out.ther (tc a' r' s' t' (.slice p9 n' k9) (.slice p0 n' k0)) (c := T20) (o := tz) (by simp) rfl) rtinfo (tc_one _ _ _ _ _ _ _ _ _ _) ?_; have MX7 := hidden (MX7b.out.set (M := [(T18, tc a' r' s' t' (.slice p7 n' k7) (.slice p8 n' k8))]) (tc a' r' s' t' (.slice p9 n' k9) (.slice p0 n' k0)) (c := T20) (o := tz) (by simp) rfl (by have hT18 := LBT18.out; simp; omega)); replace OA := hidden (own_setCells OA.out T20 0 (tc a' r' s' t' (.slice p9 n' k9) (.slice p0 n' k0)) (fun e => Nat.lt_irrefl _ (LTOA.out _ e))); clear LTOA; replace OB := hidden (own_setCells OB.out T20 0 (tc a' r' s' t' (.slice p9 n' k9) (.slice p0 n' k0)) (fun e => Nat.lt_irrefl _ (LTOB.out _ e))); clear LTOB; replace OC := hidden (own_setCells OC.out T20 0 (tc a' r' s' t' (.slice p9 n' k9) (.slice p0 n' k0)) (fun e => Nat.lt_irrefl _ (LTOC.out _ e))); clear LTOC; replace OD := hidden (own_setCells OD.out T20 0 (tc a' r' s' t' (.slice p9 n' k9) (.slice p0 n' k0)) (fun e => Nat.lt_irrefl _ (LTOD.out _ e))); clear LTOD; clear MX7b LBT18; generalize World.setCells _ T20 0 (tc a' r' s' t' (.slice p9 n' k9) (.slice p0 n' k0)) = yz at *))
                  have CS := hidden (fun x (e1 : In x (.slice p7 n' k7) n' h1) (e2 : In x (.slice p9 n' k9) n' h1) => sameNums_any (.slice p7 n' k7) (.slice p9 n' k9) n' h1 x Hn.out e1 e2)
                  have CU := hidden (fun x (e1 : In x (.slice p8 n' k8) n' h2) (e2 : In x (.slice p0 n' k0) n' h2) => sameNums_any (.slice p8 n' k8) (.slice p0 n' k0) n' h2 x Hn.out e1 e2)
                  have r_c := (MX7.out.r (T18, tc a' r' s' t' (.slice p7 n' k7) (.slice p8 n' k8)) (by simp)).1
                  have c0 := r_c 16 _ rfl
                  simp only [Nat.zero_add] at c0
                  clear r_c
                  have r_d := (MX7.out.r (T20, tc a' r' s' t' (.slice p9 n' k9) (.slice p0 n' k0)) (by simp)).1
                  have d0 := r_d 16 _ rfl
                  simp only [Nat.zero_add] at d0
                  clear r_d
                  go_wp2_with (first | (go_at_call 10; refine (CS.out _ (own_in OA.out) (own_in OC.out)).mono ?_; rintro e wk8 ⟨rfl, hb⟩; replace MX7 := hidden (MX7.out.keep hb); replace OA := hidden (own_keepX OA.out hb); replace OB := hidden (own_keepX OB.out hb); replace OC := hidden (own_keepX OC.out hb); replace OD := hidden (own_keepX OD.out hb); clear hb CS c0 d0; have r_c := (MX7.out.r (T18, tc a' r' s' t' (.slice p7 n' k7) (.slice p8 n' k8)) (by simp)).1; have c0 := r_c 17 _ rfl; simp only [Nat.zero_add] at c0; clear r_c; have r_d := (MX7.out.r (T20, tc a' r' s' t' (.slice p9 n' k9) (.slice p0 n' k0)) (by simp)).1; have d0 := r_d 17 _ rfl; simp only [Nat.zero_add] at d0; clear r_d) | (go_at_call 10; refine (CU.out _ (own_in OB.out) (own_in OD.out)).mono ?_; rintro e wk9' ⟨rfl, hb⟩; replace MX7 := hidden (MX7.out.keep hb); replace OA := hidden (own_keepX OA.out hb); replace OB := hidden (own_keepX OB.out hb); replace OC := hidden (own_keepX OC.out hb); replace OD := hidden (own_keepX OD.out hb); clear hb CU c0 d0))
                  refine bodyPost_ret (v := .bool true) (by simp [results, Tryd.results3, go_sem]) rfl ⟨rfl, below_transI HB1.out (bl_mono (below_transI BW1.out (bl_mono MX7.out.bel BW1.out.size)) HB1.out.size)⟩
end Go.Proofs.YtbkiobfjabadeaaDoor
