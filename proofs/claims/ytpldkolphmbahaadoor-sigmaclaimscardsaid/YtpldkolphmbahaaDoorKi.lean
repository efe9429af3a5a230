import Derived.Test.YtpldkolphmbahaaDoorKh
namespace Go.Proofs.YtpldkolphmbahaaDoor
open Go.RowKit
set_option linter.unusedVariables false
theorem Mw.add {w0 w : World} {L : List (Nat × List Value)} {B b : Nat} {cs : List Value} (h : Mw w0 L w) (k : Bw w B b cs) (hB : w0.heap.size ≤ B) : Mw w0 ((b, cs) :: L) w :=
  ⟨h.bel, fun p hp => by
    rcases List.mem_cons.1 hp with rfl | hp
    · exact ⟨k.r, k.t, Nat.le_trans hB k.ge, k.lt⟩
    · exact h.r p hp⟩
set_option maxRecDepth 100000 in
set_option maxHeartbeats 16000000 in
theorem claims_any (b f p q : E4) (w : World) (hT : Tb w) (ob : b.ok) (of : f.ok) (op : p.ok) (oq : q.ok) :
    Calls Tryd.prog 3 #[b.v, f.v, p.v, q.v] w fun e w' => e = .returned (.bool true) ∧ Below w.heap.size w w' := by
  have TT := hidden (fun x (h : Below w.heap.size w x) => hT.keep h)
  obtain ⟨rb, hb⟩ : ∃ r, r = lst b.n := ⟨_, rfl⟩
  obtain ⟨rf, hf⟩ : ∃ r, r = lst f.n := ⟨_, rfl⟩
  obtain ⟨rp, hp⟩ : ∃ r, r = lst p.n := ⟨_, rfl⟩
  obtain ⟨rq, hq⟩ : ∃ r, r = lst q.n := ⟨_, rfl⟩
  have Nb : Hid (∀ x, Calls Tryd.prog 5 #[.agg #[.int .u64 b.x0, .int .u64 b.x1, .int .u64 b.x2, .int .u64 b.x3]] x fun e w' => e = .returned (.agg #[.int .u64 rb.x0, .int .u64 rb.x1, .int .u64 rb.x2, .int .u64 rb.x3]) ∧ Below x.heap.size x w') := hidden (fun x => by have := num_any b x ob; rw [← hb] at this; exact this)
  have Lb : Hid (∀ x, Calls Tryd.prog 4 #[.agg #[.int .u64 rb.x0, .int .u64 rb.x1, .int .u64 rb.x2, .int .u64 rb.x3]] x fun e w' => e = .returned (.agg (el rb).toArray) ∧ Below x.heap.size x w') := hidden (fun x => lineOf_any rb x)
  have Nf : Hid (∀ x, Calls Tryd.prog 5 #[.agg #[.int .u64 f.x0, .int .u64 f.x1, .int .u64 f.x2, .int .u64 f.x3]] x fun e w' => e = .returned (.agg #[.int .u64 rf.x0, .int .u64 rf.x1, .int .u64 rf.x2, .int .u64 rf.x3]) ∧ Below x.heap.size x w') := hidden (fun x => by have := num_any f x of; rw [← hf] at this; exact this)
  have Lf : Hid (∀ x, Calls Tryd.prog 4 #[.agg #[.int .u64 rf.x0, .int .u64 rf.x1, .int .u64 rf.x2, .int .u64 rf.x3]] x fun e w' => e = .returned (.agg (el rf).toArray) ∧ Below x.heap.size x w') := hidden (fun x => lineOf_any rf x)
  have Np : Hid (∀ x, Calls Tryd.prog 5 #[.agg #[.int .u64 p.x0, .int .u64 p.x1, .int .u64 p.x2, .int .u64 p.x3]] x fun e w' => e = .returned (.agg #[.int .u64 rp.x0, .int .u64 rp.x1, .int .u64 rp.x2, .int .u64 rp.x3]) ∧ Below x.heap.size x w') := hidden (fun x => by have := num_any p x op; rw [← hp] at this; exact this)
  have Lp : Hid (∀ x, Calls Tryd.prog 4 #[.agg #[.int .u64 rp.x0, .int .u64 rp.x1, .int .u64 rp.x2, .int .u64 rp.x3]] x fun e w' => e = .returned (.agg (el rp).toArray) ∧ Below x.heap.size x w') := hidden (fun x => lineOf_any rp x)
  have Nq : Hid (∀ x, Calls Tryd.prog 5 #[.agg #[.int .u64 q.x0, .int .u64 q.x1, .int .u64 q.x2, .int .u64 q.x3]] x fun e w' => e = .returned (.agg #[.int .u64 rq.x0, .int .u64 rq.x1, .int .u64 rq.x2, .int .u64 rq.x3]) ∧ Below x.heap.size x w') := hidden (fun x => by have := num_any q x oq; rw [← hq] at this; exact this)
  have Lq : Hid (∀ x, Calls Tryd.prog 4 #[.agg #[.int .u64 rq.x0, .int .u64 rq.x1, .int .u64 rq.x2, .int .u64 rq.x3]] x fun e w' => e = .returned (.agg (el rq).toArray) ∧ Below x.heap.size x w') := hidden (fun x => lineOf_any rq x)
  have KK : Hid (b.ok ∧ f.ok ∧ p.ok ∧ q.ok ∧ rb = lst b.n ∧ rf = lst f.n ∧ rp = lst p.n ∧ rq = lst q.n) := hidden ⟨ob, of, op, oq, hb, hf, hp, hq⟩
  have M1 := ((((((Mw.start w).new [.int .u64 b.x0, .int .u64 b.x1, .int .u64 b.x2, .int .u64 b.x3] 24).new [.int .u64 f.x0, .int .u64 f.x1, .int .u64 f.x2, .int .u64 f.x3] 24).new [.int .u64 p.x0, .int .u64 p.x1, .int .u64 p.x2, .int .u64 p.x3] 24).new [.int .u64 q.x0, .int .u64 q.x1, .int .u64 q.x2, .int .u64 q.x3] 24).new [.int .u64 b.x0, .int .u64 b.x1, .int .u64 b.x2, .int .u64 b.x3, .int .u64 f.x0, .int .u64 f.x1, .int .u64 f.x2, .int .u64 f.x3, .int .u64 0, .int .u64 0, .int .u64 0, .int .u64 0, .slice none 0 0, .slice none 0 0] 29)
  simp only [World.size_alloc] at M1
  have HM := hidden M1
  clear M1 hT ob of op oq hb hf hp hq
  unfold E4.v
  go_enter Tryd.func3, Tryd.ntmps3
  go_upto_region 2 with fail
  have SZ : Hid ((((((w.alloc (.cells #[.int .u64 b.x0, .int .u64 b.x1, .int .u64 b.x2, .int .u64 b.x3] 24)).alloc (.cells #[.int .u64 f.x0, .int .u64 f.x1, .int .u64 f.x2, .int .u64 f.x3] 24)).alloc (.cells #[.int .u64 p.x0, .int .u64 p.x1, .int .u64 p.x2, .int .u64 p.x3] 24)).alloc (.cells #[.int .u64 q.x0, .int .u64 q.x1, .int .u64 q.x2, .int .u64 q.x3] 24)).alloc (.cells #[.int .u64 b.x0, .int .u64 b.x1, .int .u64 b.x2, .int .u64 b.x3, .int .u64 f.x0, .int .u64 f.x1, .int .u64 f.x2, .int .u64 f.x3, .int .u64 0, .int .u64 0, .int .u64 0, .int .u64 0, .slice none 0 0, .slice none 0 0] 29)).heap.size = w.heap.size + 1 + 1 + 1 + 1 + 1) := hidden (by simp)
  generalize hW : ((((w.alloc (.cells #[.int .u64 b.x0, .int .u64 b.x1, .int .u64 b.x2, .int .u64 b.x3] 24)).alloc (.cells #[.int .u64 f.x0, .int .u64 f.x1, .int .u64 f.x2, .int .u64 f.x3] 24)).alloc (.cells #[.int .u64 p.x0, .int .u64 p.x1, .int .u64 p.x2, .int .u64 p.x3] 24)).alloc (.cells #[.int .u64 q.x0, .int .u64 q.x1, .int .u64 q.x2, .int .u64 q.x3] 24)).alloc (.cells #[.int .u64 b.x0, .int .u64 b.x1, .int .u64 b.x2, .int .u64 b.x3, .int .u64 f.x0, .int .u64 f.x1, .int .u64 f.x2, .int .u64 f.x3, .int .u64 0, .int .u64 0, .int .u64 0, .int .u64 0, .slice none 0 0, .slice none 0 0] 29) = W at HM SZ ⊢
  clear hW
  refine sc2 _ (w.heap.size) (w.heap.size + 1) b f rb rf _ _ _ _ _ _ _ _ _ _ _ _ _ _ _ _ _ _ _ _ _ _ _ _ _ _ _ _ _ _ _ _ _ _ _ _ _ _ _ _ _ _ _ _ _ _ _ _ _ _ _ _ _ _ _ _ _ _ _ _ _ _ W ?_ Nb Lb Nf Lf (hidden (fun T10 wz hz bz => ?_))
  · have hb := (HM.out.r (w.heap.size, [.int .u64 b.x0, .int .u64 b.x1, .int .u64 b.x2, .int .u64 b.x3]) (by simp)).1
    have hf := (HM.out.r (w.heap.size + 1, [.int .u64 f.x0, .int .u64 f.x1, .int .u64 f.x2, .int .u64 f.x3]) (by simp)).1
    exact ⟨Below.refl _ _, hb 0 _ rfl, hb 1 _ rfl, hb 2 _ rfl, hb 3 _ rfl, hf 0 _ rfl, hf 1 _ rfl, hf 2 _ rfl, hf 3 _ rfl⟩
  have M2 := hidden ((HM.out.keep hz).add bz (by rw [SZ.out]; omega))
  clear hz bz Nb Lb Nf Lf HM SZ
  have p0 := (M2.out.r (w.heap.size + 1 + 1, [.int .u64 p.x0, .int .u64 p.x1, .int .u64 p.x2, .int .u64 p.x3]) (by simp)).1 0 _ rfl
  have p1 := (M2.out.r (w.heap.size + 1 + 1, [.int .u64 p.x0, .int .u64 p.x1, .int .u64 p.x2, .int .u64 p.x3]) (by simp)).1 1 _ rfl
  have p2 := (M2.out.r (w.heap.size + 1 + 1, [.int .u64 p.x0, .int .u64 p.x1, .int .u64 p.x2, .int .u64 p.x3]) (by simp)).1 2 _ rfl
  have p3 := (M2.out.r (w.heap.size + 1 + 1, [.int .u64 p.x0, .int .u64 p.x1, .int .u64 p.x2, .int .u64 p.x3]) (by simp)).1 3 _ rfl
  have q0 := (M2.out.r (w.heap.size + 1 + 1 + 1, [.int .u64 q.x0, .int .u64 q.x1, .int .u64 q.x2, .int .u64 q.x3]) (by simp)).1 0 _ rfl
  have q1 := (M2.out.r (w.heap.size + 1 + 1 + 1, [.int .u64 q.x0, .int .u64 q.x1, .int .u64 q.x2, .int .u64 q.x3]) (by simp)).1 1 _ rfl
  have q2 := (M2.out.r (w.heap.size + 1 + 1 + 1, [.int .u64 q.x0, .int .u64 q.x1, .int .u64 q.x2, .int .u64 q.x3]) (by simp)).1 2 _ rfl
  have q3 := (M2.out.r (w.heap.size + 1 + 1 + 1, [.int .u64 q.x0, .int .u64 q.x1, .int .u64 q.x2, .int .u64 q.x3]) (by simp)).1 3 _ rfl
  simp only [Nat.zero_add] at p0 p1 p2 p3 q0 q1 q2 q3
  have e2 := hidden (M2.out.new [.int .u64 p.x0, .int .u64 p.x1, .int .u64 p.x2, .int .u64 p.x3] 26)
  have qq := cell_keep q0 (bl_alloc wz (.cells #[.int .u64 p.x0, .int .u64 p.x1, .int .u64 p.x2, .int .u64 p.x3] 26))
  have qq1 := cell_keep q1 (bl_alloc wz (.cells #[.int .u64 p.x0, .int .u64 p.x1, .int .u64 p.x2, .int .u64 p.x3] 26))
  have qq2 := cell_keep q2 (bl_alloc wz (.cells #[.int .u64 p.x0, .int .u64 p.x1, .int .u64 p.x2, .int .u64 p.x3] 26))
  have qq3 := cell_keep q3 (bl_alloc wz (.cells #[.int .u64 p.x0, .int .u64 p.x1, .int .u64 p.x2, .int .u64 p.x3] 26))
  have M4 := hidden (e2.out.new [.int .u64 q.x0, .int .u64 q.x1, .int .u64 q.x2, .int .u64 q.x3] 26)
  simp only [World.size_alloc] at M4
  clear e2
  go_upto_region 5 with fail
  clear p0 p1 p2 p3 q0 q1 q2 q3 qq qq1 qq2 qq3 M2
  obtain ⟨T11, h11⟩ : ∃ T, wz.heap.size = T := ⟨_, rfl⟩
  rw [h11] at M4 ⊢
  generalize hV : (wz.alloc (.cells #[.int .u64 p.x0, .int .u64 p.x1, .int .u64 p.x2, .int .u64 p.x3] 26)).alloc (.cells #[.int .u64 q.x0, .int .u64 q.x1, .int .u64 q.x2, .int .u64 q.x3] 26) = V at M4 ⊢
  clear hV h11 wz

  have x0 := (M4.out.r (w.heap.size + 1 + 1, [.int .u64 p.x0, .int .u64 p.x1, .int .u64 p.x2, .int .u64 p.x3]) (by simp)).1 0 _ rfl
  have x1 := (M4.out.r (w.heap.size + 1 + 1, [.int .u64 p.x0, .int .u64 p.x1, .int .u64 p.x2, .int .u64 p.x3]) (by simp)).1 1 _ rfl
  have x2 := (M4.out.r (w.heap.size + 1 + 1, [.int .u64 p.x0, .int .u64 p.x1, .int .u64 p.x2, .int .u64 p.x3]) (by simp)).1 2 _ rfl
  have x3 := (M4.out.r (w.heap.size + 1 + 1, [.int .u64 p.x0, .int .u64 p.x1, .int .u64 p.x2, .int .u64 p.x3]) (by simp)).1 3 _ rfl
  simp only [Nat.zero_add] at x0 x1 x2 x3
  have I2 := hidden (el_i2 rp)
  have O2 := hidden (el_one rp)
  go_upto_region 6 with (first | (go_at_call 5; refine (Np.out _).mono ?_; rintro e wa ⟨rfl, ha⟩; replace M4 := hidden (M4.out.keep ha); clear ha x0 x1 x2 x3 Np) | (go_at_call 4; refine (Lp.out _).mono ?_; rintro e wb ⟨rfl, ha⟩; have M5 := hidden (M4.out.keep ha); have M6 := hidden (M5.out.new ze 39); have TH := hidden (M6.out.ther (el rp) (c := wb.heap.size) (o := ze) (by simp) rfl); have M7 := hidden (M6.out.set (M := [(T11 + 1, [.int .u64 q.x0, .int .u64 q.x1, .int .u64 q.x2, .int .u64 q.x3]), (T11, [.int .u64 p.x0, .int .u64 p.x1, .int .u64 p.x2, .int .u64 p.x3]), (T10, s81 rb rf), (w.heap.size + 1 + 1 + 1 + 1, [.int .u64 b.x0, .int .u64 b.x1, .int .u64 b.x2, .int .u64 b.x3, .int .u64 f.x0, .int .u64 f.x1, .int .u64 f.x2, .int .u64 f.x3, .int .u64 0, .int .u64 0, .int .u64 0, .int .u64 0, .slice none 0 0, .slice none 0 0]), (w.heap.size + 1 + 1 + 1, [.int .u64 q.x0, .int .u64 q.x1, .int .u64 q.x2, .int .u64 q.x3]), (w.heap.size + 1 + 1, [.int .u64 p.x0, .int .u64 p.x1, .int .u64 p.x2, .int .u64 p.x3]), (w.heap.size + 1, [.int .u64 f.x0, .int .u64 f.x1, .int .u64 f.x2, .int .u64 f.x3]), (w.heap.size, [.int .u64 b.x0, .int .u64 b.x1, .int .u64 b.x2, .int .u64 b.x3])]) (el rp) (c := wb.heap.size) (o := ze) (by simp) rfl (fun p hp => ⟨List.mem_cons_of_mem _ hp, Nat.ne_of_gt (M5.out.r p hp).2.2.2⟩)); unfold ze at TH M7; clear ha M4 M5 M6 Lp) | refine wpList_store_mid rfl 39 _ _ rfl wb.heap.size 0 (el rp).toArray (by rfl) (by rfl) TH.out I2.out O2.out ?_)
  generalize hV : (wb.alloc (.cells #[.int .i64 0, .int .i64 0, .int .i64 0, .int .i64 0, .int .i64 0, .int .i64 0, .int .i64 0, .int .i64 0, .int .i64 0, .int .i64 0, .int .i64 0, .int .i64 0, .int .i64 0, .int .i64 0, .int .i64 0, .int .i64 0, .int .i64 0, .int .i64 0, .int .i64 0, .int .i64 0, .int .i64 0, .int .u64 0, .int .u64 0, .int .u64 0, .int .u64 0, .slice none 0 0] 39)).setCells wb.heap.size 0 (el rp) = Vp at M7 ⊢
  clear hV TH I2 O2
  generalize wb.heap.size = Tp at M7 ⊢
  have M4 := M7
  clear M7
  have x0 := (M4.out.r (w.heap.size + 1 + 1 + 1, [.int .u64 q.x0, .int .u64 q.x1, .int .u64 q.x2, .int .u64 q.x3]) (by simp)).1 0 _ rfl
  have x1 := (M4.out.r (w.heap.size + 1 + 1 + 1, [.int .u64 q.x0, .int .u64 q.x1, .int .u64 q.x2, .int .u64 q.x3]) (by simp)).1 1 _ rfl
  have x2 := (M4.out.r (w.heap.size + 1 + 1 + 1, [.int .u64 q.x0, .int .u64 q.x1, .int .u64 q.x2, .int .u64 q.x3]) (by simp)).1 2 _ rfl
  have x3 := (M4.out.r (w.heap.size + 1 + 1 + 1, [.int .u64 q.x0, .int .u64 q.x1, .int .u64 q.x2, .int .u64 q.x3]) (by simp)).1 3 _ rfl
  simp only [Nat.zero_add] at x0 x1 x2 x3
  have I2 := hidden (el_i2 rq)
  have O2 := hidden (el_one rq)
  go_upto_region 7 with (first | (go_at_call 5; refine (Nq.out _).mono ?_; rintro e wc ⟨rfl, ha⟩; replace M4 := hidden (M4.out.keep ha); clear ha x0 x1 x2 x3 Nq) | (go_at_call 4; refine (Lq.out _).mono ?_; rintro e wd ⟨rfl, ha⟩; have M5 := hidden (M4.out.keep ha); have M6 := hidden (M5.out.new ze 39); have TH := hidden (M6.out.ther (el rq) (c := wd.heap.size) (o := ze) (by simp) rfl); have M7 := hidden (M6.out.set (M := [(Tp, el rp), (T11 + 1, [.int .u64 q.x0, .int .u64 q.x1, .int .u64 q.x2, .int .u64 q.x3]), (T11, [.int .u64 p.x0, .int .u64 p.x1, .int .u64 p.x2, .int .u64 p.x3]), (T10, s81 rb rf), (w.heap.size + 1 + 1 + 1 + 1, [.int .u64 b.x0, .int .u64 b.x1, .int .u64 b.x2, .int .u64 b.x3, .int .u64 f.x0, .int .u64 f.x1, .int .u64 f.x2, .int .u64 f.x3, .int .u64 0, .int .u64 0, .int .u64 0, .int .u64 0, .slice none 0 0, .slice none 0 0]), (w.heap.size + 1 + 1 + 1, [.int .u64 q.x0, .int .u64 q.x1, .int .u64 q.x2, .int .u64 q.x3]), (w.heap.size + 1 + 1, [.int .u64 p.x0, .int .u64 p.x1, .int .u64 p.x2, .int .u64 p.x3]), (w.heap.size + 1, [.int .u64 f.x0, .int .u64 f.x1, .int .u64 f.x2, .int .u64 f.x3]), (w.heap.size, [.int .u64 b.x0, .int .u64 b.x1, .int .u64 b.x2, .int .u64 b.x3])]) (el rq) (c := wd.heap.size) (o := ze) (by simp) rfl (fun p hp => ⟨List.mem_cons_of_mem _ hp, Nat.ne_of_gt (M5.out.r p hp).2.2.2⟩)); unfold ze at TH M7; clear ha M4 M5 M6 Lq) | refine wpList_store_mid rfl 39 _ _ rfl wd.heap.size 0 (el rq).toArray (by rfl) (by rfl) TH.out I2.out O2.out ?_)
  generalize hV : (wd.alloc (.cells #[.int .i64 0, .int .i64 0, .int .i64 0, .int .i64 0, .int .i64 0, .int .i64 0, .int .i64 0, .int .i64 0, .int .i64 0, .int .i64 0, .int .i64 0, .int .i64 0, .int .i64 0, .int .i64 0, .int .i64 0, .int .i64 0, .int .i64 0, .int .i64 0, .int .i64 0, .int .i64 0, .int .i64 0, .int .u64 0, .int .u64 0, .int .u64 0, .int .u64 0, .slice none 0 0] 39)).setCells wd.heap.size 0 (el rq) = Vq at M7 ⊢
  clear hV TH I2 O2
  generalize wd.heap.size = Tq at M7 ⊢
  have M4 := M7
  clear M7
  refine sc7 _ (w.heap.size + 1 + 1 + 1 + 1) T10 T11 (T11 + 1) Tp Tq b f p q rb rf rp rq _ _ _ _ _ _ _ _ _ _ _ _ _ _ _ _ _ _ _ _ _ _ _ _ _ _ _ _ _ _ _ _ _ _ _ _ _ _ _ _ _ _ _ _ _ _ _ _ _ _ _ _ _ _ _ _ _ _ Vq ?_ (TT.out _ M4.out.bel) KK.out.1 KK.out.2.1 KK.out.2.2.1 KK.out.2.2.2.1 KK.out.2.2.2.2.1 KK.out.2.2.2.2.2.1 KK.out.2.2.2.2.2.2.1 KK.out.2.2.2.2.2.2.2 (hidden (fun v1 v2 v3 v4 v5 v6 we he => ?_))
  · exact ⟨Below.refl _ _, (M4.out.r (w.heap.size + 1 + 1 + 1 + 1, [.int .u64 b.x0, .int .u64 b.x1, .int .u64 b.x2, .int .u64 b.x3, .int .u64 f.x0, .int .u64 f.x1, .int .u64 f.x2, .int .u64 f.x3, .int .u64 0, .int .u64 0, .int .u64 0, .int .u64 0, .slice none 0 0, .slice none 0 0]) (by simp)).1, (M4.out.r (T10, s81 rb rf) (by simp)).1, (M4.out.r (T11, [.int .u64 p.x0, .int .u64 p.x1, .int .u64 p.x2, .int .u64 p.x3]) (by simp)).1, (M4.out.r (T11 + 1, [.int .u64 q.x0, .int .u64 q.x1, .int .u64 q.x2, .int .u64 q.x3]) (by simp)).1, (M4.out.r (Tp, el rp) (by simp)).1, (M4.out.r (Tq, el rq) (by simp)).1⟩
  have HE := hidden (bl_trans M4.out.bel he)
  clear he M4
  go_wp2_with fail
  refine bodyPost_ret (v := .bool true) (by simp [results, Tryd.results3, go_sem]) rfl ⟨rfl, HE.out⟩
end Go.Proofs.YtpldkolphmbahaaDoor
