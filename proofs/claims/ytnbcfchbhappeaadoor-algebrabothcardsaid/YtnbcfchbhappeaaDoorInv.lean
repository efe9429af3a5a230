import Derived.Test.YtnbcfchbhappeaaDoorLad
namespace Go.Proofs.YtnbcfchbhappeaaDoor.Fe
open Go.RowKit

set_option maxRecDepth 100000 in
set_option maxHeartbeats 16000000 in
theorem Invert_any (a : E5) (w : World) (ha : a.ok) :
    Calls Tryd.prog 15 #[a.v] w fun e w' => ∃ r : E5, e = .returned r.v ∧ r.pw a 57896044618658097711785492504343953926634992332820282019728792003956564819947 ∧ Below w.heap.size w w' := by
  have LA := hidden (fun w => ladder_any a w ha)
  have MU := hidden (fun (r s : E5) (h : r.ok) (k : s.ok) w => Mul_any r s w h k)
  have SS := hidden squares_lit
  clear ha
  simp only [E5.v] at LA MU SS ⊢
  go_enter Tryd.func15, Tryd.ntmps15
  go_upto_region 1 with fail
  have s0 := (St.start w a 31).room 31
  simp only [World.size_alloc] at s0
  go_cut [3, 4] (fun vx vy wx => ∃ (B C : Nat) (r s : E5), vx = .pointer (some ⟨B, 0, none⟩) ∧ vy = .pointer (some ⟨C, 0, none⟩) ∧ w.heap.size + 1 < B ∧ w.heap.size + 1 < C ∧ r.pw a 11 ∧ s.pw a 1809251394333065553493296640760748560207343510400633813116524750123642650623 ∧ St w [(C, s), (B, r), (w.heap.size + 1, zero5), (w.heap.size, a)] [w.heap.size + 1] wx)
  case first =>
    go_wp2_with fail
    refine (LA.out _).mono ?_
    rintro e w1 ⟨r, s, rfl, hr, hs, hb⟩
    have hl := ((s0.keep hb).wrt (w.heap.size + 1) (by simp)).2
    have s1 := (s0.keep hb).new r 31
    have s2 := s1.new s 31
    simp only [World.size_alloc] at s2
    replace s2 := hidden s2
    clear s0 s1
    go_wp2_with fail
    go_meet
    exact ⟨_, _, r, s, rfl, rfl, hl, by omega, hr, hs, s2.out⟩
  case rest =>
  obtain ⟨B, C, r, s, rfl, rfl, hlB, hlC, hr, hs, SH⟩ := hcut
  have PR := hidden hr
  have PS := hidden hs
  replace SH := hidden SH
  clear hr hs s0
  go_upto_region 2 with fail
  have KSt : Hid (∀ w' : World, St w [(C, s), (B, r), (w.heap.size, a)] [w.heap.size + 1] w' → (fun w' => St w [(C, s), (B, r), (w.heap.size, a)] [w.heap.size + 1] w' ∧ w'.cell? ⟨C, 0, none⟩ = some (.int .u64 s.x0) ∧ w'.cell? ⟨C, 1, none⟩ = some (.int .u64 s.x1) ∧ w'.cell? ⟨C, 2, none⟩ = some (.int .u64 s.x2) ∧ w'.cell? ⟨C, 3, none⟩ = some (.int .u64 s.x3) ∧ w'.cell? ⟨C, 4, none⟩ = some (.int .u64 s.x4) ∧ w'.cell? ⟨B, 0, none⟩ = some (.int .u64 r.x0) ∧ w'.cell? ⟨B, 1, none⟩ = some (.int .u64 r.x1) ∧ w'.cell? ⟨B, 2, none⟩ = some (.int .u64 r.x2) ∧ w'.cell? ⟨B, 3, none⟩ = some (.int .u64 r.x3) ∧ w'.cell? ⟨B, 4, none⟩ = some (.int .u64 r.x4)) w') := hidden (fun w' h => ⟨h, (h.live (C, s) (by simp)).c0, (h.live (C, s) (by simp)).c1, (h.live (C, s) (by simp)).c2, (h.live (C, s) (by simp)).c3, (h.live (C, s) (by simp)).c4, (h.live (B, r) (by simp)).c0, (h.live (B, r) (by simp)).c1, (h.live (B, r) (by simp)).c2, (h.live (B, r) (by simp)).c3, (h.live (B, r) (by simp)).c4⟩)
  have K0 : Hid ((fun w' => St w [(C, s), (B, r), (w.heap.size, a)] [w.heap.size + 1] w' ∧ w'.cell? ⟨C, 0, none⟩ = some (.int .u64 s.x0) ∧ w'.cell? ⟨C, 1, none⟩ = some (.int .u64 s.x1) ∧ w'.cell? ⟨C, 2, none⟩ = some (.int .u64 s.x2) ∧ w'.cell? ⟨C, 3, none⟩ = some (.int .u64 s.x3) ∧ w'.cell? ⟨C, 4, none⟩ = some (.int .u64 s.x4) ∧ w'.cell? ⟨B, 0, none⟩ = some (.int .u64 r.x0) ∧ w'.cell? ⟨B, 1, none⟩ = some (.int .u64 r.x1) ∧ w'.cell? ⟨B, 2, none⟩ = some (.int .u64 r.x2) ∧ w'.cell? ⟨B, 3, none⟩ = some (.int .u64 r.x3) ∧ w'.cell? ⟨B, 4, none⟩ = some (.int .u64 r.x4)) wc.drew) := hidden (KSt.out _ (SH.out.sub (by simp)).drew)
  have N1 : Hid (∀ p ∈ [(C, s), (B, r), (w.heap.size, a)], w.heap.size + 1 ≠ p.1) := hidden (by simp; omega)
  have KT1 : ∀ (w2 : World) (t : E5), St w [(C, s), (B, r), (w.heap.size, a)] [w.heap.size + 1] w2 → (fun w' => St w [(C, s), (B, r), (w.heap.size, a)] [w.heap.size + 1] w' ∧ w'.cell? ⟨C, 0, none⟩ = some (.int .u64 s.x0) ∧ w'.cell? ⟨C, 1, none⟩ = some (.int .u64 s.x1) ∧ w'.cell? ⟨C, 2, none⟩ = some (.int .u64 s.x2) ∧ w'.cell? ⟨C, 3, none⟩ = some (.int .u64 s.x3) ∧ w'.cell? ⟨C, 4, none⟩ = some (.int .u64 s.x4) ∧ w'.cell? ⟨B, 0, none⟩ = some (.int .u64 r.x0) ∧ w'.cell? ⟨B, 1, none⟩ = some (.int .u64 r.x1) ∧ w'.cell? ⟨B, 2, none⟩ = some (.int .u64 r.x2) ∧ w'.cell? ⟨B, 3, none⟩ = some (.int .u64 r.x3) ∧ w'.cell? ⟨B, 4, none⟩ = some (.int .u64 r.x4)) (set5 w2 (w.heap.size + 1) t) := fun w2 t h => KSt.out _ (h.aside N1.out (by omega) t)
  simp only [set5] at KT1
  replace KT1 := hidden KT1
  go_region_held3 (fun w' => St w [(C, s), (B, r), (w.heap.size, a)] [w.heap.size + 1] w' ∧ w'.cell? ⟨C, 0, none⟩ = some (.int .u64 s.x0) ∧ w'.cell? ⟨C, 1, none⟩ = some (.int .u64 s.x1) ∧ w'.cell? ⟨C, 2, none⟩ = some (.int .u64 s.x2) ∧ w'.cell? ⟨C, 3, none⟩ = some (.int .u64 s.x3) ∧ w'.cell? ⟨C, 4, none⟩ = some (.int .u64 s.x4) ∧ w'.cell? ⟨B, 0, none⟩ = some (.int .u64 r.x0) ∧ w'.cell? ⟨B, 1, none⟩ = some (.int .u64 r.x1) ∧ w'.cell? ⟨B, 2, none⟩ = some (.int .u64 r.x2) ∧ w'.cell? ⟨B, 3, none⟩ = some (.int .u64 r.x3) ∧ w'.cell? ⟨B, 4, none⟩ = some (.int .u64 r.x4)) (first | with_reducible exact K0.out | with_reducible exact KB.out | with_reducible exact KA.out | with_reducible exact KT1.out wB t KB.out.1)
    (first | (go_at_call 31; refine (SS.out s 5 5 rfl _ PS.out.ok (by omega) (by omega)).mono ?_; rintro e wA ⟨u, rfl, hu, hbA⟩; have KA := hidden (KSt.out _ ((SH.out.sub (by simp)).drew.keep hbA))) | (go_at_call 17; refine (MU.out u r (E5.is.ok hu) PR.out.ok _).mono ?_; rintro e wB ⟨t, rfl, hm, hbB⟩; have sB := (SH.out.drew.keep hbA).keep hbB; have KB := hidden (KSt.out _ (sB.sub (by simp))); have q0 := (sB.live (w.heap.size + 1, zero5) (by simp)).c0; have q1 := (sB.live (w.heap.size + 1, zero5) (by simp)).c1; have q2 := (sB.live (w.heap.size + 1, zero5) (by simp)).c2; have q3 := (sB.live (w.heap.size + 1, zero5) (by simp)).c3; have q4 := (sB.live (w.heap.size + 1, zero5) (by simp)).c4; have f0 := (sB.wrt (w.heap.size + 1) (by simp)).1.f0; have f1 := (sB.wrt (w.heap.size + 1) (by simp)).1.f1; have f2 := (sB.wrt (w.heap.size + 1) (by simp)).1.f2; have f3 := (sB.wrt (w.heap.size + 1) (by simp)).1.f3; have f4 := (sB.wrt (w.heap.size + 1) (by simp)).1.f4; clear sB))
  go_wp2_with fail
  refine bodyPost_ret (v := .agg #[.int .u64 t.x0, .int .u64 t.x1, .int .u64 t.x2, .int .u64 t.x3, .int .u64 t.x4]) (by simp [results, Tryd.results15, go_sem, q0, q1, q2, q3, q4]) rfl ⟨t, rfl, E5.pw.mul (E5.pw.pow PS.out hu (g := 57896044618658097711785492504343953926634992332820282019728792003956564819936) (by decide)) PR.out hm (by decide), ?_⟩
  with_reducible exact (KT1.out wB t KB.out.1).1.bel
end Go.Proofs.YtnbcfchbhappeaaDoor.Fe
