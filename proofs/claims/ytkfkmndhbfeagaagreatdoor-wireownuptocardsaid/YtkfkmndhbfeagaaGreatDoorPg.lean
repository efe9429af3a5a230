import Derived.Test.YtkfkmndhbfeagaaGreatDoorPf
namespace Go.Proofs.YtkfkmndhbfeagaaGreatDoor
open Go.RowKit
set_option linter.unusedVariables false
/-- a Reader in block g whose bytes lie in block q -/
def Rb (w : World) (g q : Nat) (bs : List UInt8) (e : Int) : Prop := ∃ (P : Option Addr) (c : Nat), Tr.Rd w g P c bs e ∧ ∀ a, P = some a → a.block = q
theorem Rb.keep {w w' : World} {g q : Nat} {bs : List UInt8} {e : Int} (h : Rb w g q bs e) (hb : Below w.heap.size w w') : Rb w' g q bs e := by
  obtain ⟨P, c, h1, h2⟩ := h
  exact ⟨P, c, h1.keep hb, h2⟩
theorem Rb.kp {w w' : World} {g q b : Nat} {bs : List UInt8} {e : Int} (h : Rb w g q bs e) (k : Tr.Kp b w w') (hg : g ≠ b) (hq : q ≠ b) : Rb w' g q bs e := by
  obtain ⟨P, c, h1, h2⟩ := h
  exact ⟨P, c, rd_kp h1 k hg (fun a ha => by rw [h2 a ha]; exact hq), h2⟩
theorem Rb.glt {w : World} {g q : Nat} {bs : List UInt8} {e : Int} (h : Rb w g q bs e) : g < w.heap.size := by
  obtain ⟨P, c, h1, h2⟩ := h
  exact h1.glt
theorem nb_ok {bs : List UInt8} (h : de bs = 0) : nb bs 0 = bs.drop 32 ∧ ne bs 0 = 0 ∧ nd bs 0 = d4 bs := by unfold nb ne nd; simp [h]
theorem nb_bad {bs : List UInt8} (h : de bs = 3) (h2 : d4 bs = zero4) : nb bs 0 = bs ∧ ne bs 0 = 3 ∧ nd bs 0 = zero4 := by unfold nb ne nd; simp [h, h2]
theorem nb_no {bs : List UInt8} {e : Int} (h : e ≠ 0) : nb bs e = bs ∧ ne bs e = e ∧ nd bs e = zero4 := by unfold nb ne nd; simp [h]
theorem readL {w : World} {g q X : Nat} {bs : List UInt8} {e : Int} (hT : Tb w) (h : Rb w g q bs e) (h32 : e = 0 → 32 ≤ bs.length) (hX : w.cell? ⟨X, 0, none⟩ = some fvL) :
    Calls Tryz.prog 62 #[.pointer (some ⟨g, 0, none⟩), .func (.func 63) #[] #[.pointer (some ⟨X, 0, none⟩)]] w fun r w' => r = .returned (nd bs e).v ∧ Rb w' g q (nb bs e) (ne bs e) ∧ Tr.Kp g w w' := by
  obtain ⟨P, c, hR, hq⟩ := h
  by_cases he : e = 0
  · subst he
    obtain ⟨b, o, rfl⟩ := hR.by'.none' (by have := h32 rfl; omega)
    rcases de_or bs with hd | ⟨hd, hz⟩
    · obtain ⟨e1, e2, e3⟩ := nb_ok hd
      rw [e1, e2, e3]
      have hl := (hR.fr _ rfl)
      refine (readL_okB hT hR (h32 rfl) hX hd).mono fun r w' ⟨P', c', h1, h2, h3, h4⟩ => ⟨h1, ⟨P', c', h2, fun a ha => (h4 a ha).trans (hq _ rfl)⟩, h3⟩
    · obtain ⟨e1, e2, e3⟩ := nb_bad hd hz
      rw [e1, e2, e3]
      exact (readL_bad hT hR (h32 rfl) hX hd).mono fun r w' ⟨h1, h2, h3⟩ => ⟨h1, ⟨_, _, h2, hq⟩, h3⟩
  · obtain ⟨e1, e2, e3⟩ := nb_no (bs := bs) he
    rw [e1, e2, e3]
    exact (readL_no _ hR he).mono fun r w' ⟨h1, h2⟩ => ⟨h1, ⟨P, c, hR.keep h2, hq⟩, Tr.Kp.of h2⟩
set_option maxRecDepth 100000 in
set_option maxHeartbeats 8000000 in
theorem decodedL {w : World} {g q : Nat} {bs : List UInt8} {e : Int} (hT : Tb w) (h : Rb w g q bs e) (h32 : e = 0 → 32 ≤ bs.length) (hq : q < w.heap.size) :
    Calls Tryz.prog 45 #[.pointer (some ⟨g, 0, none⟩), .func (.method "Decode") #[.iface 52 (.agg #[.int .u64 0, .int .u64 0, .int .u64 0, .int .u64 0])] #[]] w fun r w' => r = .returned (nd bs e).v ∧ Rb w' g q (nb bs e) (ne bs e) ∧ Tr.Kp g w w' := by
  have M0 := ((Mw.start w).new [.func (.method "Decode") #[.iface 52 (.agg #[.int .u64 0, .int .u64 0, .int .u64 0, .int .u64 0])] #[]] 107).new [.int .u64 0, .int .u64 0, .int .u64 0, .int .u64 0] 52
  simp only [World.size_alloc] at M0
  have R := hidden (readL (X := w.heap.size) (hT.keep M0.bel) (h.keep M0.bel) h32 ((M0.r (w.heap.size, [.func (.method "Decode") #[.iface 52 (.agg #[.int .u64 0, .int .u64 0, .int .u64 0, .int .u64 0])] #[]]) (by simp)).1 0 _ rfl))
  have hmf : ∀ (fn : Fn) (first cap : Array Value) (w : World), (Instr.makeFunc fn first cap).run Tryz.prog w = .ok (.func fn first cap) w := fun _ _ _ _ => rfl
  have GL := hidden h.glt
  have HQ := hidden hq
  have MM := hidden M0
  generalize hz : nd bs e = z at R ⊢
  generalize nb bs e = bs' at R ⊢
  generalize ne bs e = e' at R ⊢
  clear hz h h32 hT M0 hq
  unfold E4.v at R ⊢
  generalize hW : (w.alloc (.cells #[.func (.method "Decode") #[.iface 52 (.agg #[.int .u64 0, .int .u64 0, .int .u64 0, .int .u64 0])] #[]] 107)).alloc (.cells #[.int .u64 0, .int .u64 0, .int .u64 0, .int .u64 0] 52) = W at R MM
  have GO : Hid (∀ wr, Rb wr g q bs' e' → Tr.Kp g W wr → wr.there (w.heap.size + 1) 0 ([.int .u64 z.x0, .int .u64 z.x1, .int .u64 z.x2, .int .u64 z.x3] : List Value).toArray.size ∧ (wr.setCells (w.heap.size + 1) 0 [.int .u64 z.x0, .int .u64 z.x1, .int .u64 z.x2, .int .u64 z.x3]).rangeAt (w.heap.size + 1) 0 [.int .u64 z.x0, .int .u64 z.x1, .int .u64 z.x2, .int .u64 z.x3] ∧ Rb (wr.setCells (w.heap.size + 1) 0 [.int .u64 z.x0, .int .u64 z.x1, .int .u64 z.x2, .int .u64 z.x3]) g q bs' e' ∧ Tr.Kp g w (wr.setCells (w.heap.size + 1) 0 [.int .u64 z.x0, .int .u64 z.x1, .int .u64 z.x2, .int .u64 z.x3])) := hidden (fun wr hr hk => by
    have := GL.out
    have := HQ.out
    have t0 := (MM.out.r (w.heap.size + 1, [.int .u64 0, .int .u64 0, .int .u64 0, .int .u64 0]) (by simp)).2.1
    have t1 := there_kp t0 hk (by simp only; omega)
    have KT := kp_setCells (w.heap.size + 1) [.int .u64 z.x0, .int .u64 z.x1, .int .u64 z.x2, .int .u64 z.x3] 0 wr
    exact ⟨t1, World.rangeAt_setCells_same _ (w.heap.size + 1) 0 _ t1, hr.kp KT (by omega) (by omega), kp_new ((Tr.Kp.of MM.out.bel).trans hk) KT (by omega)⟩)
  have I4 := hidden (i4aL z)
  have O4 := hidden (c4_one z)
  have I5 := hidden (i4L z)
  have UT : Hid (Tryz.prog.underlying 52 = _) := hidden Tryz.underlying52
  clear MM
  go_enter Tryz.func45, Tryz.ntmps45
  go_wp2_with (first | (go_at_call 62; refine R.out.mono ?_; rintro r wr ⟨rfl, hr, hk⟩; have HA := hidden (GO.out wr hr hk); have LD := hidden (run_loadVar_mid _ (w.heap.size + 1) 0 52 [.int .u64 z.x0, .int .u64 z.x1, .int .u64 z.x2, .int .u64 z.x3] _ HA.out.2.1 UT.out rfl I5.out); clear R GO hr hk hW) | refine wpList_storeL rfl 52 _ _ rfl rfl (w.heap.size + 1) 0 [.int .u64 z.x0, .int .u64 z.x1, .int .u64 z.x2, .int .u64 z.x3] (by rfl) (by rfl) HA.out.1 I4.out O4.out ?_)
  refine bodyPost_ret (v := .agg [.int .u64 z.x0, .int .u64 z.x1, .int .u64 z.x2, .int .u64 z.x3].toArray) (results_cellM Tryz.results45 _ _ _ _ _ (by rfl) LD.out) rfl ⟨rfl, HA.out.2.2.1, HA.out.2.2.2⟩
theorem readS {w : World} {g q X : Nat} {bs : List UInt8} {e : Int} (hT : Tb w) (h : Rb w g q bs e) (h32 : e = 0 → 32 ≤ bs.length) (hX : w.cell? ⟨X, 0, none⟩ = some fvS) :
    Calls Tryz.prog 64 #[.pointer (some ⟨g, 0, none⟩), .func (.func 65) #[] #[.pointer (some ⟨X, 0, none⟩)]] w fun r w' => r = .returned (nd bs e).v ∧ Rb w' g q (nb bs e) (ne bs e) ∧ Tr.Kp g w w' := by
  obtain ⟨P, c, hR, hq⟩ := h
  by_cases he : e = 0
  · subst he
    obtain ⟨b, o, rfl⟩ := hR.by'.none' (by have := h32 rfl; omega)
    rcases de_or bs with hd | ⟨hd, hz⟩
    · obtain ⟨e1, e2, e3⟩ := nb_ok hd
      rw [e1, e2, e3]
      have hl := (hR.fr _ rfl)
      refine (readS_okB hT hR (h32 rfl) hX hd).mono fun r w' ⟨P', c', h1, h2, h3, h4⟩ => ⟨h1, ⟨P', c', h2, fun a ha => (h4 a ha).trans (hq _ rfl)⟩, h3⟩
    · obtain ⟨e1, e2, e3⟩ := nb_bad hd hz
      rw [e1, e2, e3]
      exact (readS_bad hT hR (h32 rfl) hX hd).mono fun r w' ⟨h1, h2, h3⟩ => ⟨h1, ⟨_, _, h2, hq⟩, h3⟩
  · obtain ⟨e1, e2, e3⟩ := nb_no (bs := bs) he
    rw [e1, e2, e3]
    exact (readS_no _ hR he).mono fun r w' ⟨h1, h2⟩ => ⟨h1, ⟨P, c, hR.keep h2, hq⟩, Tr.Kp.of h2⟩
set_option maxRecDepth 100000 in
set_option maxHeartbeats 8000000 in
theorem decodedS {w : World} {g q : Nat} {bs : List UInt8} {e : Int} (hT : Tb w) (h : Rb w g q bs e) (h32 : e = 0 → 32 ≤ bs.length) (hq : q < w.heap.size) :
    Calls Tryz.prog 46 #[.pointer (some ⟨g, 0, none⟩), .func (.func 47) #[] #[]] w fun r w' => r = .returned (nd bs e).v ∧ Rb w' g q (nb bs e) (ne bs e) ∧ Tr.Kp g w w' := by
  have M0 := ((Mw.start w).new [.func (.func 47) #[] #[]] 109).new [.int .u64 0, .int .u64 0, .int .u64 0, .int .u64 0] 24
  simp only [World.size_alloc] at M0
  have R := hidden (readS (X := w.heap.size) (hT.keep M0.bel) (h.keep M0.bel) h32 ((M0.r (w.heap.size, [.func (.func 47) #[] #[]]) (by simp)).1 0 _ rfl))
  have hmf : ∀ (fn : Fn) (first cap : Array Value) (w : World), (Instr.makeFunc fn first cap).run Tryz.prog w = .ok (.func fn first cap) w := fun _ _ _ _ => rfl
  have GL := hidden h.glt
  have HQ := hidden hq
  have MM := hidden M0
  generalize hz : nd bs e = z at R ⊢
  generalize nb bs e = bs' at R ⊢
  generalize ne bs e = e' at R ⊢
  clear hz h h32 hT M0 hq
  unfold E4.v at R ⊢
  generalize hW : (w.alloc (.cells #[.func (.func 47) #[] #[]] 109)).alloc (.cells #[.int .u64 0, .int .u64 0, .int .u64 0, .int .u64 0] 24) = W at R MM
  have GO : Hid (∀ wr, Rb wr g q bs' e' → Tr.Kp g W wr → wr.there (w.heap.size + 1) 0 ([.int .u64 z.x0, .int .u64 z.x1, .int .u64 z.x2, .int .u64 z.x3] : List Value).toArray.size ∧ (wr.setCells (w.heap.size + 1) 0 [.int .u64 z.x0, .int .u64 z.x1, .int .u64 z.x2, .int .u64 z.x3]).rangeAt (w.heap.size + 1) 0 [.int .u64 z.x0, .int .u64 z.x1, .int .u64 z.x2, .int .u64 z.x3] ∧ Rb (wr.setCells (w.heap.size + 1) 0 [.int .u64 z.x0, .int .u64 z.x1, .int .u64 z.x2, .int .u64 z.x3]) g q bs' e' ∧ Tr.Kp g w (wr.setCells (w.heap.size + 1) 0 [.int .u64 z.x0, .int .u64 z.x1, .int .u64 z.x2, .int .u64 z.x3])) := hidden (fun wr hr hk => by
    have := GL.out
    have := HQ.out
    have t0 := (MM.out.r (w.heap.size + 1, [.int .u64 0, .int .u64 0, .int .u64 0, .int .u64 0]) (by simp)).2.1
    have t1 := there_kp t0 hk (by simp only; omega)
    have KT := kp_setCells (w.heap.size + 1) [.int .u64 z.x0, .int .u64 z.x1, .int .u64 z.x2, .int .u64 z.x3] 0 wr
    exact ⟨t1, World.rangeAt_setCells_same _ (w.heap.size + 1) 0 _ t1, hr.kp KT (by omega) (by omega), kp_new ((Tr.Kp.of MM.out.bel).trans hk) KT (by omega)⟩)
  have I4 := hidden (i4aS z)
  have O4 := hidden (c4_one z)
  have I5 := hidden (i4S z)
  have UT : Hid (Tryz.prog.underlying 24 = _) := hidden Tryz.underlying24
  clear MM
  go_enter Tryz.func46, Tryz.ntmps46
  go_wp2_with (first | (go_at_call 64; refine R.out.mono ?_; rintro r wr ⟨rfl, hr, hk⟩; have HA := hidden (GO.out wr hr hk); have LD := hidden (run_loadVar_mid _ (w.heap.size + 1) 0 24 [.int .u64 z.x0, .int .u64 z.x1, .int .u64 z.x2, .int .u64 z.x3] _ HA.out.2.1 UT.out rfl I5.out); clear R GO hr hk hW) | refine wpList_storeL rfl 24 _ _ rfl rfl (w.heap.size + 1) 0 [.int .u64 z.x0, .int .u64 z.x1, .int .u64 z.x2, .int .u64 z.x3] (by rfl) (by rfl) HA.out.1 I4.out O4.out ?_)
  refine bodyPost_ret (v := .agg [.int .u64 z.x0, .int .u64 z.x1, .int .u64 z.x2, .int .u64 z.x3].toArray) (results_cellM Tryz.results46 _ _ _ _ _ (by rfl) LD.out) rfl ⟨rfl, HA.out.2.2.1, HA.out.2.2.2⟩
end Go.Proofs.YtkfkmndhbfeagaaGreatDoor
