import Derived.Test.YthhcdjndfepbaaaAsy
namespace Go.Proofs.Ythhcdjndfepbaaa
open Go.RowKit
/-- pairs that lie from an address on -/
def Ip (w : World) (P : Option Addr) (n : Nat) (a b : Nat → Int) : Prop := ∃ sb so : Nat, (0 < n → P = some ⟨sb, so, none⟩) ∧ ∀ k, k < n → w.cell? ⟨sb, so + k * 2, none⟩ = some (.int .i64 (a k)) ∧ w.cell? ⟨sb, so + k * 2 + 1, none⟩ = some (.int .i64 (b k))
theorem Ip.keep {w w' : World} {P : Option Addr} {n : Nat} {a b : Nat → Int} (h : Ip w P n a b) (hb : Below w.heap.size w w') : Ip w' P n a b := by
  obtain ⟨sb, so, h1, h2⟩ := h
  exact ⟨sb, so, h1, fun k hk => ⟨cell_keep (h2 k hk).1 hb, cell_keep (h2 k hk).2 hb⟩⟩
/-- the same modulo 5 and modulo 7 -/
def Q57 (u v a b : Int) : Prop := Mx.C 5 u a ∧ Mx.C 7 v b
theorem Q57.trans {u v a b c d : Int} (h : Q57 u v a b) (g : Q57 a b c d) : Q57 u v c d := ⟨h.1.trans g.1, h.2.trans g.2⟩
theorem Q57.mk {u v a b : Int} (h : Mx.C 5 u a) (g : Mx.C 7 v b) : Q57 u v a b := ⟨h, g⟩
theorem Q57.l {u v a b : Int} (h : Q57 u v a b) : Mx.C 5 u a := h.1
theorem Q57.r {u v a b : Int} (h : Q57 u v a b) : Mx.C 7 v b := h.2
theorem Q57.of_eq {a b c d : Int} (h : a = c) (g : b = d) : Q57 a b c d := ⟨Mx.C.of_eq h, Mx.C.of_eq g⟩
def EvalP : Prop := ∀ (P : Option Addr) (n cP : Nat) (a b : Nat → Int) (x y : Int) (w : World), n ≤ 100 → n ≤ cP → Ip w P n a b →
  Calls Try.prog 15 #[.slice P n cP, pv x y] w fun e w' => ∃ u v : Int, e = .returned (pv u v) ∧ Q57 u v (Mx.ev n a x) (Mx.ev n b y) ∧ Below w.heap.size w w'
def ProductP : Prop := ∀ (P Q : Option Addr) (n l cP cQ : Nat) (a b c d : Nat → Int) (w : World), n ≤ 40 → l ≤ 40 → n ≤ cP → l ≤ cQ → Ip w P n a b → Ip w Q l c d →
  Calls Try.prog 16 #[.slice P n cP, .slice Q l cQ] w fun e w' => ∃ (R : Option Addr) (N cR : Nat) (a' b' : Nat → Int), e = .returned (.slice R N cR) ∧ N ≤ 100 ∧ N ≤ cR ∧ Ip w' R N a' b' ∧ ((n = 0 ∨ l = 0) → N = 0) ∧ (0 < n → 0 < l → N + 1 = n + l ∧ ∀ k, k < N → Q57 (a' k) (b' k) (Mx.cv n a (Mx.zx l c) k) (Mx.cv n b (Mx.zx l d) k)) ∧ Below w.heap.size w w'
def PowersP : Prop := ∀ (x y : Int) (n : Nat) (w : World), n ≤ 40 →
  Calls Try.prog 20 #[pv x y, .int .i64 n] w fun e w' => ∃ (R : Option Addr) (cR : Nat) (a' b' : Nat → Int), e = .returned (.tuple #[.slice R n cR, .int .i64 0]) ∧ n ≤ cR ∧ Ip w' R n a' b' ∧ (∀ k, k < n → Q57 (a' k) (b' k) (x ^ k) (y ^ k)) ∧ Below w.heap.size w w'
def InnerP : Prop := ∀ (P Q : Option Addr) (n cP cQ : Nat) (a b c d : Nat → Int) (w : World), n ≤ 40 → n ≤ cP → n ≤ cQ → Ip w P n a b → Ip w Q n c d →
  Calls Try.prog 21 #[.slice P n cP, .slice Q n cQ] w fun e w' => ∃ u v : Int, e = .returned (.tuple #[pv u v, .int .i64 0]) ∧ Q57 u v (Mx.sm n (fun k => a k * c k)) (Mx.sm n (fun k => b k * d k)) ∧ Below w.heap.size w w'
def MixP : Prop := ∀ (x y z t : Int) (P Q : Option Addr) (n cP cQ : Nat) (a b c d : Nat → Int) (w : World), n ≤ 40 → n ≤ cP → n ≤ cQ → Ip w P n a b → Ip w Q n c d →
  Calls Try.prog 22 #[pv x y, .slice P n cP, pv z t, .slice Q n cQ] w fun e w' => ∃ (R : Option Addr) (cR : Nat) (a' b' : Nat → Int), e = .returned (.tuple #[.slice R n cR, .int .i64 0]) ∧ n ≤ cR ∧ Ip w' R n a' b' ∧ (∀ k, k < n → Q57 (a' k) (b' k) (x * a k + z * c k) (y * b k + t * d k)) ∧ Below w.heap.size w w'
theorem own_pairs {w : World} {base : Nat} {e : TypeId} {v : Value} {q : Nat} {a b : Nat → Int} (how : w.ownsRow base e 2 v q (pvl a b q)) : ∃ (P : Option Addr) (c : Nat), v = .slice P q c ∧ q ≤ c ∧ Ip w P q a b := by
  have hp : ∀ (n k : Nat), k < n → (pvl a b n)[k * 2]? = some (.int .i64 (a k)) ∧ (pvl a b n)[k * 2 + 1]? = some (.int .i64 (b k)) := by
    intro n
    induction n with
    | zero => intro k hk; omega
    | succ n ih =>
      intro k hk
      have hl : ∀ n, (pvl a b n).length = n * 2 := fun n => by
        induction n with
        | zero => rfl
        | succ n ih => rw [pvl_succ, List.length_append, ih]; simp; omega
      rw [pvl_succ]
      by_cases hkn : k < n
      · rw [List.getElem?_append_left (by rw [hl]; omega), List.getElem?_append_left (by rw [hl]; omega)]
        exact ih k hkn
      · obtain rfl : k = n := by omega
        rw [List.getElem?_append_right (by rw [hl]; omega), List.getElem?_append_right (by rw [hl]; omega), hl]
        simp
  rcases how.2 with ⟨rfl, h0⟩ | ⟨g, cap, cur, rfl, hg, _, hnc, _, _, _⟩
  · exact ⟨none, 0, by rw [h0], by omega, ⟨0, 0, fun h => by omega, fun k hk => by omega⟩⟩
  · refine ⟨_, cap, rfl, hnc, ⟨g, 0, fun _ => rfl, fun k hk => ?_⟩⟩
    rw [Nat.zero_add, how.cellAt (k * 2) (by omega), how.cellAt (k * 2 + 1) (by omega)]
    exact hp q k hk
-- maths
theorem ring_product {n l N : Nat} {a b c d a' b' : Nat → Int} {x y : Int} (h0 : (n = 0 ∨ l = 0) → N = 0) (h1 : 0 < n → 0 < l → N + 1 = n + l ∧ ∀ k, k < N → Q57 (a' k) (b' k) (Mx.cv n a (Mx.zx l c) k) (Mx.cv n b (Mx.zx l d) k)) :
    Q57 (Mx.ev N a' x) (Mx.ev N b' y) (Mx.ev n a x * Mx.ev l c x) (Mx.ev n b y * Mx.ev l d y) := by
  by_cases hn : n = 0
  · rw [h0 (Or.inl hn), hn]; exact Q57.of_eq (by simp [Mx.ev, Mx.sm]) (by simp [Mx.ev, Mx.sm])
  · by_cases hl : l = 0
    · rw [h0 (Or.inr hl), hl]; exact Q57.of_eq (by simp [Mx.ev, Mx.sm]) (by simp [Mx.ev, Mx.sm])
    · obtain ⟨hN, hk⟩ := h1 (by omega) (by omega)
      exact ⟨(Mx.ev_C (fun i hi => (hk i hi).1) Mx.C.rfl).trans (Mx.C.of_eq (Mx.ev_cv n l N a c x (by omega))), (Mx.ev_C (fun i hi => (hk i hi).2) Mx.C.rfl).trans (Mx.C.of_eq (Mx.ev_cv n l N b d y (by omega)))⟩
theorem ring_inner {m : Int} {n : Nat} {a l : Nat → Int} {x : Int} (h : ∀ k, k < n → Mx.C m (l k) (x ^ k)) : Mx.C m (Mx.sm n (fun k => l k * a k)) (Mx.ev n a x) :=
  (Mx.sm_C fun k hk => (h k hk).mul Mx.C.rfl).trans (Mx.C.of_eq (Mx.sm_congr fun _ _ => Int.mul_comm _ _))
theorem ring_mix {m : Int} {n : Nat} {a l t : Nat → Int} {x : Int} (h : ∀ k, k < n → Mx.C m (t k) (x * a k + 1 * l k)) : Mx.C m (Mx.sm n (fun k => t k * a k)) (x * Mx.sm n (fun k => a k * a k) + Mx.sm n (fun k => l k * a k)) := by
  refine (Mx.sm_C fun k hk => (h k hk).mul (Mx.C.rfl (x := a k))).trans (Mx.C.of_eq ?_)
  rw [← Mx.sm_mul, ← Mx.sm_add]
  exact Mx.sm_congr fun k _ => by grind
set_option maxRecDepth 100000 in
set_option maxHeartbeats 16000000 in
theorem ring_any (EP : EvalP) (PP : ProductP) (WP : PowersP) (IP : InnerP) (MP : MixP) (SC : SolveC) (EC : EvalC) (P1 P2 : Option Addr) (L1 c1 L2 c2 : Nat) (N : Int) (f1 f2 : Nat → Int) (w : World) (h1 : Il w P1 L1 f1) (h2 : Il w P2 L2 f2) :
    Calls Try.prog 5 #[.slice P1 L1 c1, .slice P2 L2 c2, .int .i64 N] w fun e w' => e = .returned (.bool true) ∧ Below w.heap.size w w' := by
  have HEP := hidden EP
  have HPP := hidden PP
  have HWP := hidden WP
  have HIP := hidden IP
  have HMP := hidden MP
  have AL := hidden (fun w => alive_any SC EC w)
  have S1 := hidden (fun w' (hb : Below w.heap.size w w') => pairs_any P1 L1 c1 f1 w' (h1.keep hb))
  have S2 := hidden (fun w' (hb : Below w.heap.size w w') => pairs_any P2 L2 c2 f2 w' (h2.keep hb))
  clear EP PP WP IP MP SC EC h1 h2
  go_enter Try.func5, Try.ntmps5
  go_upto_region 1 with fail
  go_cut [20] (fun v wx => v = .bool false ∧ Below w.heap.size w wx)
  case first =>
    as_aux_lemma =>
      go_wp2_with fail
      refine (AL.out _).mono ?_
      rintro e w1 ⟨rfl, hb⟩
      have B1 := hidden hb
      clear hb
      go_wp2_with fail
      go_meet
      exact ⟨rfl, B1.out⟩
  case rest =>
  obtain ⟨rfl, hb⟩ := hcut
  have B0 := hidden hb
  clear hb AL
  generalize wc = wa at *
  go_upto_region 3 with fail
  go_cut [7] (fun v wx => ∃ (n : Nat) (P : Option Addr) (c : Nat) (a b : Nat → Int), n ≤ 40 ∧ n ≤ c ∧ v = .slice P n c ∧ Ip wx P n a b ∧ Below w.heap.size w wx)
  case first =>
    as_aux_lemma =>
      go_wp2_with fail
      refine (S1.out _ B0.out).mono ?_
      rintro e w1 ⟨v, rfl, how, hb⟩
      obtain ⟨P, c, rfl, hqc, il⟩ := own_pairs how
      have IL := hidden il
      have QC := hidden hqc
      have B1 := hidden (bl_trans B0.out hb)
      clear how hb il hqc
      go_wp2_with fail
      go_meet
      exact ⟨_, P, c, _, _, by omega, QC.out, rfl, IL.out, B1.out⟩
  case rest =>
  obtain ⟨n, P, c, a, b, hn40, hnc, rfl, il, hb⟩ := hcut
  have N40 := hidden hn40
  have NCC := hidden hnc
  have IA := hidden il
  have B1 := hidden hb
  have n0 : (0 : Int) ≤ (n : Int) := by omega
  clear hn40 hnc il hb S1 B0
  generalize wc = w1 at *
  go_upto_region 4 with fail
  go_cut [8] (fun v wx => ∃ (n : Nat) (P : Option Addr) (c : Nat) (a b : Nat → Int), n ≤ 40 ∧ n ≤ c ∧ v = .slice P n c ∧ Ip wx P n a b ∧ Below w1.heap.size w1 wx)
  case first =>
    as_aux_lemma =>
      go_wp2_with fail
      refine (S2.out _ B1.out).mono ?_
      rintro e w2 ⟨v, rfl, how, hb⟩
      obtain ⟨P, c, rfl, hqc, il⟩ := own_pairs how
      have IL := hidden il
      have QC := hidden hqc
      have B2 := hidden hb
      clear how hb il hqc
      go_wp2_with fail
      go_meet
      exact ⟨_, P, c, _, _, by omega, QC.out, rfl, IL.out, B2.out⟩
  case rest =>
  obtain ⟨l, Q, d, e, f, hl40, hld, rfl, il, hb⟩ := hcut
  have L40 := hidden hl40
  have LD := hidden hld
  have IE := hidden il
  have IA2 := hidden (IA.out.keep hb)
  have B2 := hidden (bl_trans B1.out hb)
  clear hl40 hld il hb S2 IA B1
  generalize wc = w2 at *
  have wz := tm_wrap N 35 (by decide) (by decide)
  obtain ⟨x, hx⟩ : ∃ x, N.tmod 35 = x := ⟨_, rfl⟩
  rw [hx] at wz
  go_upto_region 5 with fail
  go_cut [9] (fun v wx => ∃ X : Nat, v = .pointer (some ⟨X, 0, none⟩) ∧ wx.cell? ⟨X, 0, none⟩ = some (.int .i64 x) ∧ wx.cell? ⟨X, 1, none⟩ = some (.int .i64 x) ∧ Below w2.heap.size w2 wx)
  case first =>
    as_aux_lemma =>
      have B3 := hidden (bl_alloc w2 (.cells #[.int .i64 x, .int .i64 x] 43))
      have C0 : Hid ((w2.alloc (.cells #[.int .i64 x, .int .i64 x] 43)).cell? ⟨w2.heap.size, 0, none⟩ = some (.int .i64 x)) := hidden (by go_simp)
      have C1 : Hid ((w2.alloc (.cells #[.int .i64 x, .int .i64 x] 43)).cell? ⟨w2.heap.size, 1, none⟩ = some (.int .i64 x)) := hidden (by go_simp)
      go_wp2_with fail
      go_meet
      exact ⟨_, rfl, C0.out, C1.out, B3.out⟩
  case rest =>
  obtain ⟨X, rfl, x0, x1, hb⟩ := hcut
  have IA3 := hidden (IA2.out.keep hb)
  have IE3 := hidden (IE.out.keep hb)
  have B3 := hidden (bl_trans B2.out hb)
  have X0 := hidden x0
  have X1 := hidden x1
  clear hb x0 x1 IA2 IE B2 wz hx
  generalize wc = w3 at *
  have KS : Hid (∀ w', Below w3.heap.size w3 w' → (fun w' => Below w3.heap.size w3 w' ∧ w'.cell? ⟨X, 0, none⟩ = some (.int .i64 x) ∧ w'.cell? ⟨X, 1, none⟩ = some (.int .i64 x)) w') := hidden (fun w' h => ⟨h, cell_keep X0.out h, cell_keep X1.out h⟩)
  have EVA : Hid (∀ w', Below w3.heap.size w3 w' → Calls Try.prog 15 #[.slice P n c, pv x x] w' fun e w'' => ∃ u v : Int, e = .returned (pv u v) ∧ Q57 u v (Mx.ev n a x) (Mx.ev n b x) ∧ Below w'.heap.size w' w'') := hidden (fun w' hb => HEP.out P n c a b x x w' (by have := N40.out; omega) NCC.out (IA3.out.keep hb))
  have EVE : Hid (∀ w', Below w3.heap.size w3 w' → Calls Try.prog 15 #[.slice Q l d, pv x x] w' fun e' w'' => ∃ u v : Int, e' = .returned (pv u v) ∧ Q57 u v (Mx.ev l e x) (Mx.ev l f x) ∧ Below w'.heap.size w' w'') := hidden (fun w' hb => HEP.out Q l d e f x x w' (by have := L40.out; omega) LD.out (IE3.out.keep hb))
  have PRC : Hid (∀ w', Below w3.heap.size w3 w' → Calls Try.prog 16 #[.slice P n c, .slice Q l d] w' fun e' w'' => ∃ (R : Option Addr) (M cR : Nat), e' = .returned (.slice R M cR) ∧ Below w'.heap.size w' w'' ∧ ∀ wz, Below w''.heap.size w'' wz → Calls Try.prog 15 #[.slice R M cR, pv x x] wz fun e2 w2 => ∃ u v : Int, e2 = .returned (pv u v) ∧ Q57 u v (Mx.ev n a x * Mx.ev l e x) (Mx.ev n b x * Mx.ev l f x) ∧ Below wz.heap.size wz w2) := hidden (fun w' hb => (HPP.out P Q n l c d a b e f w' N40.out L40.out NCC.out LD.out (IA3.out.keep hb) (IE3.out.keep hb)).mono fun e' w'' ⟨R, M, cR, a', b', he, h1, h2, h3, h4, h5, h6⟩ => ⟨R, M, cR, he, h6, fun wz hz => (HEP.out R M cR a' b' x x wz h1 h2 (h3.keep hz)).mono fun e2 w2 ⟨u, v, q1, q2, q3⟩ => ⟨u, v, q1, q2.trans (ring_product h4 h5), q3⟩⟩)
  have MUL := hidden (fun (p q r s : Int) w => pMul_any p q r s w)
  have SUB := hidden (fun (p q r s : Int) w => pSub_any p q r s w)
  have ADD := hidden (fun (p q r s : Int) w => pAdd_any p q r s w)
  have ISZ := hidden (fun (p q : Int) (h1 : Mx.C 5 p 0) (h2 : Mx.C 7 q 0) w => pIsZero_any p q w h1 h2)
  unfold pv at EVA EVE PRC MUL SUB ADD ISZ
  go_upto_region 6 with fail
  go_cut [44] (fun v wx => v = .bool false ∧ Below w3.heap.size w3 wx)
  case first =>
    as_aux_lemma =>
      have K0 := hidden (KS.out _ (bl_drew w3))
      go_region_held3 (fun w' => Below w3.heap.size w3 w' ∧ w'.cell? ⟨X, 0, none⟩ = some (.int .i64 x) ∧ w'.cell? ⟨X, 1, none⟩ = some (.int .i64 x)) (first | with_reducible exact K0.out | with_reducible exact hk.out)
        (first | (go_at_call 16; have hA := (show Below w3.heap.size w3 _ ∧ _ from (by assumption)); with_reducible refine (PRC.out _ hA.1).mono ?_; rintro e' wn ⟨R, M, cR, rfl, hb, hpe⟩; have HPE := hidden (hpe _ (Below.refl _ _)); clear hpe; have hk := hidden (KS.out _ (bl_trans hA.1 hb))) | (go_at_call 15; have hA := (show Below w3.heap.size w3 _ ∧ _ from (by assumption)); with_reducible refine HPE.out.mono ?_; rintro e' wn ⟨u1, v1, rfl, q1, hb⟩; have E1 := hidden q1; have hk := hidden (KS.out _ (bl_trans hA.1 hb))) | (go_at_call 15; have hA := (show Below w3.heap.size w3 _ ∧ _ from (by assumption)); with_reducible refine (EVA.out _ hA.1).mono ?_; rintro e' wn ⟨u2, v2, rfl, q2, hb⟩; have E2 := hidden q2; have hk := hidden (KS.out _ (bl_trans hA.1 hb))) | (go_at_call 15; have hA := (show Below w3.heap.size w3 _ ∧ _ from (by assumption)); with_reducible refine (EVE.out _ hA.1).mono ?_; rintro e' wn ⟨u3, v3, rfl, q3, hb⟩; have E3 := hidden q3; have hk := hidden (KS.out _ (bl_trans hA.1 hb))) | (go_at_call 18; have hA := (show Below w3.heap.size w3 _ ∧ _ from (by assumption)); with_reducible refine (MUL.out _ _ _ _ _).mono ?_; rintro e' wn ⟨u4, v4, rfl, q4, q5, hb⟩; have E4' : Hid (Q57 u4 v4 (Mx.ev n a x * Mx.ev l e x) (Mx.ev n b x * Mx.ev l f x)) := hidden (Q57.mk (q4.trans (E2.out.l.mul E3.out.l)) (q5.trans (E2.out.r.mul E3.out.r))); have hk := hidden (KS.out _ (bl_trans hA.1 hb))) | (go_at_call 17; have hA := (show Below w3.heap.size w3 _ ∧ _ from (by assumption)); with_reducible refine (SUB.out _ _ _ _ _).mono ?_; rintro e' wn ⟨u5, v5, rfl, q4, q5, hb⟩; have Z1 : Hid (Mx.C 5 u5 0) := hidden ((q4.trans (E1.out.l.sub E4'.out.l)).trans (Mx.C.of_eq (Int.sub_self _))); have Z2 : Hid (Mx.C 7 v5 0) := hidden ((q5.trans (E1.out.r.sub E4'.out.r)).trans (Mx.C.of_eq (Int.sub_self _))); have hk := hidden (KS.out _ (bl_trans hA.1 hb))) | (go_at_call 19; have hA := (show Below w3.heap.size w3 _ ∧ _ from (by assumption)); with_reducible refine (ISZ.out _ _ Z1.out Z2.out _).mono ?_; rintro e' wn ⟨rfl, hb⟩; have hk := hidden (KS.out _ (bl_trans hA.1 hb))))
      go_wp2_with fail
      go_meet
      exact ⟨rfl, hk.out.1⟩
  case rest =>
  obtain ⟨rfl, hb⟩ := hcut
  have B4 := hidden hb
  clear hb PRC EVE IE3
  generalize wc = w4 at *
  have x0 := (KS.out _ B4.out).2.1
  have x1 := (KS.out _ B4.out).2.2
  go_upto_region 8 with fail
  go_cut [10, 11] (fun v ev wx => ∃ (R : Option Addr) (cR : Nat) (la lb : Nat → Int), v = .slice R n cR ∧ ev = .int .i64 0 ∧ n ≤ cR ∧ Ip wx R n la lb ∧ (∀ k, k < n → Q57 (la k) (lb k) (x ^ k) (x ^ k)) ∧ Below w3.heap.size w3 wx)
  case first =>
    as_aux_lemma =>
      have PW := hidden (HWP.out x x n w4 N40.out)
      unfold pv at PW
      go_wp2_with fail
      refine PW.out.mono ?_
      rintro e' w5 ⟨R, cR, la, lb, rfl, h1, h2, h3, h4⟩
      have H1 := hidden h1
      have H2 := hidden h2
      have H3 := hidden h3
      have H4 := hidden (bl_trans B4.out h4)
      clear h1 h2 h3 h4
      go_wp2_with fail
      go_meet
      exact ⟨R, cR, la, lb, rfl, rfl, H1.out, H2.out, H3.out, H4.out⟩
  case rest =>
  obtain ⟨R, cR, la, lb, rfl, rfl, h1, h2, h3, h4⟩ := hcut
  have NR := hidden h1
  have IL5 := hidden h2
  have LP := hidden h3
  have B5 := hidden h4
  clear h1 h2 h3 h4 x0 x1 B4
  generalize wc = w5 at *
  have IA5 := hidden (IA3.out.keep B5.out)
  have INL : Hid (∀ w', Below w5.heap.size w5 w' → Calls Try.prog 21 #[.slice R n cR, .slice P n c] w' fun e' w'' => ∃ u v : Int, e' = .returned (.tuple #[pv u v, .int .i64 0]) ∧ Q57 u v (Mx.sm n (fun k => la k * a k)) (Mx.sm n (fun k => lb k * b k)) ∧ Below w'.heap.size w' w'') := hidden (fun w' hb => HIP.out R P n cR c la lb a b w' N40.out NR.out NCC.out (IL5.out.keep hb) (IA5.out.keep hb))
  unfold pv at INL
  go_upto_region 11 with fail
  go_cut [12, 11] (fun pw ev wx => ∃ (Z : Nat) (u v : Int), pw = .pointer (some ⟨Z, 0, none⟩) ∧ ev = .int .i64 0 ∧ wx.cell? ⟨Z, 0, none⟩ = some (.int .i64 u) ∧ wx.cell? ⟨Z, 1, none⟩ = some (.int .i64 v) ∧ Q57 u v (Mx.sm n (fun k => la k * a k)) (Mx.sm n (fun k => lb k * b k)) ∧ Below w5.heap.size w5 wx)
  case first =>
    as_aux_lemma =>
      go_wp2_with fail
      refine (INL.out _ (Below.refl _ _)).mono ?_
      rintro e' w6 ⟨u, v, rfl, h1, h2⟩
      have H1 := hidden h1
      have C0 : Hid ((w6.alloc (.cells #[.int .i64 u, .int .i64 v] 43)).cell? ⟨w6.heap.size, 0, none⟩ = some (.int .i64 u)) := hidden (by go_simp)
      have C1 : Hid ((w6.alloc (.cells #[.int .i64 u, .int .i64 v] 43)).cell? ⟨w6.heap.size, 1, none⟩ = some (.int .i64 v)) := hidden (by go_simp)
      have H2 := hidden (bl_trans h2 (bl_alloc w6 (.cells #[.int .i64 u, .int .i64 v] 43)))
      clear h1 h2
      go_wp2_with fail
      go_meet
      exact ⟨_, u, v, rfl, rfl, C0.out, C1.out, H1.out, H2.out⟩
  case rest =>
  obtain ⟨Z, u, v, rfl, rfl, z0, z1, h1, h2⟩ := hcut
  have HU0 := hidden (h1.trans (Q57.mk (ring_inner fun k hk => (LP.out k hk).l) (ring_inner fun k hk => (LP.out k hk).r)))
  have B6 := hidden h2
  have Z0 := hidden z0
  have Z1 := hidden z1
  clear z0 z1 h1 h2
  generalize wc = w6 at *
  have KS6 : Hid (∀ w', Below w6.heap.size w6 w' → (fun w' => Below w6.heap.size w6 w' ∧ w'.cell? ⟨X, 0, none⟩ = some (.int .i64 x) ∧ w'.cell? ⟨X, 1, none⟩ = some (.int .i64 x) ∧ w'.cell? ⟨Z, 0, none⟩ = some (.int .i64 u) ∧ w'.cell? ⟨Z, 1, none⟩ = some (.int .i64 v)) w') := hidden (fun w' h => ⟨h, (KS.out _ (bl_trans (bl_trans B5.out B6.out) h)).2.1, (KS.out _ (bl_trans (bl_trans B5.out B6.out) h)).2.2, cell_keep Z0.out h, cell_keep Z1.out h⟩)
  have EVA6 := hidden (fun w' (hb : Below w6.heap.size w6 w') => EVA.out w' (bl_trans (bl_trans B5.out B6.out) hb))
  go_upto_region 12 with fail
  go_cut [77] (fun v wx => v = .bool false ∧ Below w6.heap.size w6 wx)
  case first =>
    as_aux_lemma =>
      have K0 := hidden (KS6.out _ (bl_drew w6))
      go_region_held3 (fun w' => Below w6.heap.size w6 w' ∧ w'.cell? ⟨X, 0, none⟩ = some (.int .i64 x) ∧ w'.cell? ⟨X, 1, none⟩ = some (.int .i64 x) ∧ w'.cell? ⟨Z, 0, none⟩ = some (.int .i64 u) ∧ w'.cell? ⟨Z, 1, none⟩ = some (.int .i64 v)) (first | with_reducible exact K0.out | with_reducible exact hk.out)
        (first | (go_at_call 15; have hA := (show Below w6.heap.size w6 _ ∧ _ from (by assumption)); with_reducible refine (EVA6.out _ hA.1).mono ?_; rintro e' wn ⟨u2, v2, rfl, q2, hb⟩; have E2 := hidden q2; have hk := hidden (KS6.out _ (bl_trans hA.1 hb))) | (go_at_call 17; have hA := (show Below w6.heap.size w6 _ ∧ _ from (by assumption)); with_reducible refine (SUB.out _ _ _ _ _).mono ?_; rintro e' wn ⟨u5, v5, rfl, q4, q5, hb⟩; have Y1 : Hid (Mx.C 5 u5 0) := hidden ((q4.trans (HU0.out.l.sub E2.out.l)).trans (Mx.C.of_eq (Int.sub_self _))); have Y2 : Hid (Mx.C 7 v5 0) := hidden ((q5.trans (HU0.out.r.sub E2.out.r)).trans (Mx.C.of_eq (Int.sub_self _))); have hk := hidden (KS6.out _ (bl_trans hA.1 hb))) | (go_at_call 19; have hA := (show Below w6.heap.size w6 _ ∧ _ from (by assumption)); with_reducible refine (ISZ.out _ _ Y1.out Y2.out _).mono ?_; rintro e' wn ⟨rfl, hb⟩; have hk := hidden (KS6.out _ (bl_trans hA.1 hb))))
      go_wp2_with fail
      go_meet
      exact ⟨rfl, hk.out.1⟩
  case rest =>
  obtain ⟨rfl, hb⟩ := hcut
  have B7 := hidden (bl_trans (bl_trans B5.out B6.out) hb)
  have B57 := hidden (bl_trans B6.out hb)
  clear hb KS6 EVA6 HU0 Z0 Z1 B6
  generalize wc = w7 at *
  have x0 := (KS.out _ B7.out).2.1
  have x1 := (KS.out _ B7.out).2.2
  go_upto_region 14 with fail
  go_cut [13, 11] (fun v ev wx => ∃ (S : Option Addr) (cS : Nat) (ta tb : Nat → Int), v = .slice S n cS ∧ ev = .int .i64 0 ∧ n ≤ cS ∧ Ip wx S n ta tb ∧ (∀ k, k < n → Q57 (ta k) (tb k) (x * a k + 1 * la k) (x * b k + 1 * lb k)) ∧ Below w7.heap.size w7 wx)
  case first =>
    as_aux_lemma =>
      have MX := hidden (HMP.out x x 1 1 P R n c cR a b la lb w7 N40.out NCC.out NR.out (IA5.out.keep B57.out) (IL5.out.keep B57.out))
      unfold pv at MX
      go_wp2_with fail
      refine MX.out.mono ?_
      rintro e' w8 ⟨S, cS, ta, tb, rfl, h1, h2, h3, h4⟩
      have H1 := hidden h1
      have H2 := hidden h2
      have H3 := hidden h3
      have H4 := hidden h4
      clear h1 h2 h3 h4
      go_wp2_with fail
      go_meet
      exact ⟨S, cS, ta, tb, rfl, rfl, H1.out, H2.out, H3.out, H4.out⟩
  case rest =>
  obtain ⟨S, cS, ta, tb, rfl, rfl, h1, h2, h3, h4⟩ := hcut
  have NS := hidden h1
  have IT8 := hidden h2
  have TP := hidden h3
  have B8 := hidden (bl_trans B7.out h4)
  have B58 := hidden (bl_trans B57.out h4)
  clear h1 h2 h3 h4 x0 x1 B7 B57
  generalize wc = w8 at *
  have IA8 := hidden (IA5.out.keep B58.out)
  have IL8 := hidden (IL5.out.keep B58.out)
  have IN1 := hidden (fun w' (hb : Below w8.heap.size w8 w') => HIP.out S P n cS c ta tb a b w' N40.out NS.out NCC.out (IT8.out.keep hb) (IA8.out.keep hb))
  have IN2 := hidden (fun w' (hb : Below w8.heap.size w8 w') => HIP.out P P n c c a b a b w' N40.out NCC.out NCC.out (IA8.out.keep hb) (IA8.out.keep hb))
  have IN3 := hidden (fun w' (hb : Below w8.heap.size w8 w') => HIP.out R P n cR c la lb a b w' N40.out NR.out NCC.out (IL8.out.keep hb) (IA8.out.keep hb))
  unfold pv at IN1 IN2 IN3
  go_upto_region 17 with fail
  go_cut [14, 11] (fun pw ev wx => ∃ (Z : Nat) (u v : Int), pw = .pointer (some ⟨Z, 0, none⟩) ∧ ev = .int .i64 0 ∧ wx.cell? ⟨Z, 0, none⟩ = some (.int .i64 u) ∧ wx.cell? ⟨Z, 1, none⟩ = some (.int .i64 v) ∧ Q57 u v (Mx.sm n (fun k => ta k * a k)) (Mx.sm n (fun k => tb k * b k)) ∧ Below w8.heap.size w8 wx)
  case first =>
    as_aux_lemma =>
      go_wp2_with fail
      refine (IN1.out _ (Below.refl _ _)).mono ?_
      rintro e' w9 ⟨u, v, rfl, h1, h2⟩
      have H1 := hidden h1
      have C0 : Hid ((w9.alloc (.cells #[.int .i64 u, .int .i64 v] 43)).cell? ⟨w9.heap.size, 0, none⟩ = some (.int .i64 u)) := hidden (by go_simp)
      have C1 : Hid ((w9.alloc (.cells #[.int .i64 u, .int .i64 v] 43)).cell? ⟨w9.heap.size, 1, none⟩ = some (.int .i64 v)) := hidden (by go_simp)
      have H2 := hidden (bl_trans h2 (bl_alloc w9 (.cells #[.int .i64 u, .int .i64 v] 43)))
      clear h1 h2
      go_wp2_with fail
      go_meet
      exact ⟨_, u, v, rfl, rfl, C0.out, C1.out, H1.out, H2.out⟩
  case rest =>
  obtain ⟨ZA, ua, va, rfl, rfl, z0, z1, h1, h2⟩ := hcut
  have ZA0 := hidden z0
  have ZA1 := hidden z1
  have ZAq := hidden h1
  have ZAb := hidden h2
  clear z0 z1 h1 h2
  generalize wc = w9 at *
  go_upto_region 18 with fail
  go_cut [15, 16] (fun pw ev wx => ∃ (Z : Nat) (u v : Int), pw = .pointer (some ⟨Z, 0, none⟩) ∧ ev = .int .i64 0 ∧ wx.cell? ⟨Z, 0, none⟩ = some (.int .i64 u) ∧ wx.cell? ⟨Z, 1, none⟩ = some (.int .i64 v) ∧ Q57 u v (Mx.sm n (fun k => a k * a k)) (Mx.sm n (fun k => b k * b k)) ∧ Below w9.heap.size w9 wx)
  case first =>
    as_aux_lemma =>
      go_wp2_with fail
      refine (IN2.out _ ZAb.out).mono ?_
      rintro e' w9 ⟨u, v, rfl, h1, h2⟩
      have H1 := hidden h1
      have C0 : Hid ((w9.alloc (.cells #[.int .i64 u, .int .i64 v] 43)).cell? ⟨w9.heap.size, 0, none⟩ = some (.int .i64 u)) := hidden (by go_simp)
      have C1 : Hid ((w9.alloc (.cells #[.int .i64 u, .int .i64 v] 43)).cell? ⟨w9.heap.size, 1, none⟩ = some (.int .i64 v)) := hidden (by go_simp)
      have H2 := hidden (bl_trans h2 (bl_alloc w9 (.cells #[.int .i64 u, .int .i64 v] 43)))
      clear h1 h2
      go_wp2_with fail
      go_meet
      exact ⟨_, u, v, rfl, rfl, C0.out, C1.out, H1.out, H2.out⟩
  case rest =>
  obtain ⟨ZB, ub, vb, rfl, rfl, z0, z1, h1, h2⟩ := hcut
  have ZB0 := hidden z0
  have ZB1 := hidden z1
  have ZBq := hidden h1
  have ZBb := hidden h2
  clear z0 z1 h1 h2
  generalize wc = w10 at *
  go_upto_region 19 with fail
  go_cut [17, 18] (fun pw ev wx => ∃ (Z : Nat) (u v : Int), pw = .pointer (some ⟨Z, 0, none⟩) ∧ ev = .int .i64 0 ∧ wx.cell? ⟨Z, 0, none⟩ = some (.int .i64 u) ∧ wx.cell? ⟨Z, 1, none⟩ = some (.int .i64 v) ∧ Q57 u v (Mx.sm n (fun k => la k * a k)) (Mx.sm n (fun k => lb k * b k)) ∧ Below w10.heap.size w10 wx)
  case first =>
    as_aux_lemma =>
      go_wp2_with fail
      refine (IN3.out _ (bl_trans ZAb.out ZBb.out)).mono ?_
      rintro e' w9 ⟨u, v, rfl, h1, h2⟩
      have H1 := hidden h1
      have C0 : Hid ((w9.alloc (.cells #[.int .i64 u, .int .i64 v] 43)).cell? ⟨w9.heap.size, 0, none⟩ = some (.int .i64 u)) := hidden (by go_simp)
      have C1 : Hid ((w9.alloc (.cells #[.int .i64 u, .int .i64 v] 43)).cell? ⟨w9.heap.size, 1, none⟩ = some (.int .i64 v)) := hidden (by go_simp)
      have H2 := hidden (bl_trans h2 (bl_alloc w9 (.cells #[.int .i64 u, .int .i64 v] 43)))
      clear h1 h2
      go_wp2_with fail
      go_meet
      exact ⟨_, u, v, rfl, rfl, C0.out, C1.out, H1.out, H2.out⟩
  case rest =>
  obtain ⟨ZC, uc, vc, rfl, rfl, z0, z1, h1, h2⟩ := hcut
  have ZC0 := hidden z0
  have ZC1 := hidden z1
  have ZCq := hidden h1
  have ZCb := hidden h2
  clear z0 z1 h1 h2
  generalize wc = w11 at *
  have B11 := hidden (bl_trans (bl_trans (bl_trans B8.out ZAb.out) ZBb.out) ZCb.out)
  have KS9 : Hid (∀ w', Below w11.heap.size w11 w' → (fun w' => Below w11.heap.size w11 w' ∧ w'.cell? ⟨X, 0, none⟩ = some (.int .i64 x) ∧ w'.cell? ⟨X, 1, none⟩ = some (.int .i64 x) ∧ w'.cell? ⟨ZA, 0, none⟩ = some (.int .i64 ua) ∧ w'.cell? ⟨ZA, 1, none⟩ = some (.int .i64 va) ∧ w'.cell? ⟨ZB, 0, none⟩ = some (.int .i64 ub) ∧ w'.cell? ⟨ZB, 1, none⟩ = some (.int .i64 vb) ∧ w'.cell? ⟨ZC, 0, none⟩ = some (.int .i64 uc) ∧ w'.cell? ⟨ZC, 1, none⟩ = some (.int .i64 vc)) w') := hidden (fun w' h => ⟨h, (KS.out _ (bl_trans B11.out h)).2.1, (KS.out _ (bl_trans B11.out h)).2.2, cell_keep (cell_keep (cell_keep ZA0.out ZBb.out) ZCb.out) h, cell_keep (cell_keep (cell_keep ZA1.out ZBb.out) ZCb.out) h, cell_keep (cell_keep ZB0.out ZCb.out) h, cell_keep (cell_keep ZB1.out ZCb.out) h, cell_keep ZC0.out h, cell_keep ZC1.out h⟩)
  have LEFT := hidden (ZAq.out.trans (Q57.mk (ring_mix fun k hk => (TP.out k hk).l) (ring_mix fun k hk => (TP.out k hk).r)))
  clear IN1 IN2 IN3 IT8 IA8 IL8 EVA INL
  go_upto_region 20 with fail
  go_cut [6] (fun v wx => v = .bool true ∧ Below w11.heap.size w11 wx)
  case first =>
    as_aux_lemma =>
      have K0 := hidden (KS9.out _ (bl_drew w11))
      go_region_held3 (fun w' => Below w11.heap.size w11 w' ∧ w'.cell? ⟨X, 0, none⟩ = some (.int .i64 x) ∧ w'.cell? ⟨X, 1, none⟩ = some (.int .i64 x) ∧ w'.cell? ⟨ZA, 0, none⟩ = some (.int .i64 ua) ∧ w'.cell? ⟨ZA, 1, none⟩ = some (.int .i64 va) ∧ w'.cell? ⟨ZB, 0, none⟩ = some (.int .i64 ub) ∧ w'.cell? ⟨ZB, 1, none⟩ = some (.int .i64 vb) ∧ w'.cell? ⟨ZC, 0, none⟩ = some (.int .i64 uc) ∧ w'.cell? ⟨ZC, 1, none⟩ = some (.int .i64 vc)) (first | with_reducible exact K0.out | with_reducible exact hk.out)
        (first | (go_at_call 18; have hA := (show Below w11.heap.size w11 _ ∧ _ from (by assumption)); with_reducible refine (MUL.out _ _ _ _ _).mono ?_; rintro e' wn ⟨u4, v4, rfl, q4, q5, hb⟩; have M4 : Hid (Q57 u4 v4 (x * Mx.sm n (fun k => a k * a k)) (x * Mx.sm n (fun k => b k * b k))) := hidden (Q57.mk (q4.trans (Mx.C.rfl.mul ZBq.out.l)) (q5.trans (Mx.C.rfl.mul ZBq.out.r))); have hk := hidden (KS9.out _ (bl_trans hA.1 hb))) | (go_at_call 23; have hA := (show Below w11.heap.size w11 _ ∧ _ from (by assumption)); with_reducible refine (ADD.out _ _ _ _ _).mono ?_; rintro e' wn ⟨u6, v6, rfl, q4, q5, hb⟩; have A6 : Hid (Q57 u6 v6 (x * Mx.sm n (fun k => a k * a k) + Mx.sm n (fun k => la k * a k)) (x * Mx.sm n (fun k => b k * b k) + Mx.sm n (fun k => lb k * b k))) := hidden (Q57.mk (q4.trans (M4.out.l.add ZCq.out.l)) (q5.trans (M4.out.r.add ZCq.out.r))); have hk := hidden (KS9.out _ (bl_trans hA.1 hb))) | (go_at_call 17; have hA := (show Below w11.heap.size w11 _ ∧ _ from (by assumption)); with_reducible refine (SUB.out _ _ _ _ _).mono ?_; rintro e' wn ⟨u5, v5, rfl, q4, q5, hb⟩; have Y1 : Hid (Mx.C 5 u5 0) := hidden ((q4.trans (LEFT.out.l.sub A6.out.l)).trans (Mx.C.of_eq (Int.sub_self _))); have Y2 : Hid (Mx.C 7 v5 0) := hidden ((q5.trans (LEFT.out.r.sub A6.out.r)).trans (Mx.C.of_eq (Int.sub_self _))); have hk := hidden (KS9.out _ (bl_trans hA.1 hb))) | (go_at_call 19; have hA := (show Below w11.heap.size w11 _ ∧ _ from (by assumption)); with_reducible refine (ISZ.out _ _ Y1.out Y2.out _).mono ?_; rintro e' wn ⟨rfl, hb⟩; have hk := hidden (KS9.out _ (bl_trans hA.1 hb))))
      go_wp2_with fail
      go_meet
      exact ⟨rfl, hk.out.1⟩
  case rest =>
  obtain ⟨rfl, hb⟩ := hcut
  have B12 := hidden (bl_trans (bl_trans B3.out B11.out) hb)
  clear hb
  go_wp2_with fail
  refine bodyPost_ret (v := .bool true) (by simp [results, Try.results5, go_sem]) rfl ⟨rfl, B12.out⟩
end Go.Proofs.Ythhcdjndfepbaaa
