import Derived.Test.YtghcfcglakbkeaaGreatDoorCeaz
namespace Go.Proofs.YtghcfcglakbkeaaGreatDoor
open Go.RowKit
def byt (N : Int) (j : Nat) : Int := N / 256 ^ j % 256
def bytes (N : Int) : List Int := (List.range 32).map (byt N)
theorem bytes_get (N : Int) (j : Nat) (h : j < 32) : (bytes N)[j]? = some (byt N j) := by simp [bytes, h]
theorem byt_bd (N : Int) (j : Nat) : 0 ≤ byt N j ∧ byt N j ≤ 255 := by unfold byt; omega
def word64 (N : Int) (q : Nat) : Int := N / 18446744073709551616 ^ q % 18446744073709551616
theorem byt_word (N : Int) (k : Nat) : word64 N (k / 8) / 2 ^ (8 * (k % 8)) % 256 = byt N k := by
 unfold word64 byt
 have e : N / 256 ^ k = N / 18446744073709551616 ^ (k / 8) / 2 ^ (8 * (k % 8)) := by
  rw [Int.ediv_ediv_of_nonneg (Int.le_of_lt (Int.pow_pos (by decide)))]
  congr 1
  rw [show (18446744073709551616 : Int) = 2 ^ 64 from rfl, show (256 : Int) = 2 ^ 8 from rfl, ← Int.pow_mul, ← Int.pow_mul, ← Int.pow_add]
  congr 1; omega
 rw [e]
 generalize N / 18446744073709551616 ^ (k / 8) = M
 have hc : k % 8 = 0 ∨ k % 8 = 1 ∨ k % 8 = 2 ∨ k % 8 = 3 ∨ k % 8 = 4 ∨ k % 8 = 5 ∨ k % 8 = 6 ∨ k % 8 = 7 := by omega
 rcases hc with h | h | h | h | h | h | h | h <;> rw [h] <;> simp <;> omega
theorem there_keep {w1 w2 : World} {b o n : Nat} (h : w1.there b o n) (hl : b < w1.heap.size) (hb : Below w1.heap.size w1 w2) : w2.there b o n := fun j hj =>
 ⟨by rw [hb.cell (p := ⟨b, o + j, none⟩) hl]; exact (h j hj).1, by rw [hb.frozen (p := ⟨b, o + j, none⟩) hl]; exact (h j hj).2⟩
theorem there_new (w : World) (C : Array Value) (t : TypeId) : (w.alloc (.cells C t)).there w.heap.size 0 C.size := fun j hj => by
 refine ⟨?_, by go_simp⟩
 rw [Nat.zero_add, World.cell?_alloc_mark]
 simp [hj]
structure EncW (w0 : World) (n : Int) (Wb Bb R k : Nat) (w : World) : Prop where
 wd : ∀ q, q < 4 → w.cell? ⟨Wb, q, none⟩ = some (.int .u64 (word64 n q))
 bt : ∀ j, j < 32 → w.cell? ⟨Bb, j, none⟩ = some (.int .u8 (if j < k then byt n j else 0))
 fr : ∀ j, j < 32 → w.frozen? ⟨Bb, j, none⟩ = false
 th : w.there R 0 32
 bel : Below w0.heap.size w0 w
theorem EncW.step {w0 : World} {n : Int} {Wb Bb R k : Nat} {w : World} (h : EncW w0 n Wb Bb R k w) (hk : k < 32) (h1 : Bb ≠ Wb) (h0 : w0.heap.size ≤ Bb) :
  EncW w0 n Wb Bb R (k + 1) (w.setCell ⟨Bb, k, none⟩ (.int .u8 (byt n k))) := by
 refine ⟨fun q hq => (World.cell?_setCell_far w _ _ _ h1).trans (h.wd q hq), fun j hj => ?_, fun j hj => by have := h.fr j hj; go_simp, fun j hj => ⟨?_, by rw [World.frozen?_setCell]; exact (h.th j hj).2⟩, h.bel.setCell h0 _⟩
 ·by_cases hjk : j = k
  ·subst hjk
   have hb := h.bt j hj
   rw [if_pos (by omega)]
   go_simp
  ·rw [World.cell?_setCell_other w _ _ _ (by intro e; exact hjk (congrArg Addr.off e).symm), h.bt j hj]
   by_cases hlt : j < k
   ·rw [if_pos hlt, if_pos (by omega)]
   ·rw [if_neg hlt, if_neg (by omega)]
 ·exact World.isSome_setCells Bb [.int .u8 (byt n k)] k w _ (h.th j hj).1
theorem below_setCells {w0 : World} (b : Nat) : ∀ (vs : List Value) (o : Nat) {w : World}, Below w0.heap.size w0 w → w0.heap.size ≤ b → Below w0.heap.size w0 (w.setCells b o vs)
 | [], _, _, h, _ => h
 | v :: vs, o, w, h, hb => by
  rw [World.setCells]
  exact below_setCells b vs (o + 1) (h.setCell hb v) hb
theorem results_cell1 {fn : Func} {p : Tmp} {ty : TypeId} (h : fn.results = #[.cell p ty]) (tmps : Array Value) (P : Program) (w : World) (a : Addr) (v : Value) (ha : tmps.getD p undef = .pointer (some a)) (hl : (loadVar ty a).run P w = .ok v w) :
  (results fn tmps).run P w = .ok v w := by
 have e : (results fn tmps).run P w = ((asAddr (tmps.getD p undef)).run P w).andThen fun a w1 => (loadVar ty a).run P w1 := by
  simp only [results, h]
  simp [Sem.run_bind, Result.andThen]
 rw [e, ha]
 simp [asAddr, hl, Result.andThen]
theorem bytesV (n : Int) (j : Nat) (v : Value) (h : ((bytes n).map fun z => Value.int .u8 z)[j]? = some v) : j < 32 ∧ v = .int .u8 (byt n j) := by
 have hj : j < 32 := by
  have := (List.getElem?_eq_some_iff.1 h).1
  simpa [bytes] using this
 refine ⟨hj, ?_⟩
 rw [List.getElem?_map, bytes_get n j hj] at h
 simpa using h.symm
theorem word_lim (n : Int) (q : Nat) (hq : q < 4) : word64 n q = Sm.lim q n := by
 unfold word64
 have h4 : q = 0 ∨ q = 1 ∨ q = 2 ∨ q = 3 := by omega
 rcases h4 with rfl | rfl | rfl | rfl <;> simp [Sm.lim]
set_option maxRecDepth 100000 in
set_option maxHeartbeats 4000000 in
theorem Encode_any (a : E4) (w : World) (hT : Tb w) (ha : a.ok) :
  Calls Tryz.prog 76 #[a.v] w fun e w' => e = .returned (.agg ((bytes (a.n % Sm.L)).map fun z => Value.int .u8 z).toArray) ∧ Below w.heap.size w w' := by
 have c1 := fun w T => Least_any a w T ha
 have hN := byt_word (a.n % Sm.L)
 have HR : ∀ r : E4, r.is a.n → r = ⟨word64 (a.n % Sm.L) 0, word64 (a.n % Sm.L) 1, word64 (a.n % Sm.L) 2, word64 (a.n % Sm.L) 3⟩ := fun r h => by
  rw [word_lim _ 0 (by omega), word_lim _ 1 (by omega), word_lim _ 2 (by omega), word_lim _ 3 (by omega)]; exact h
 generalize a.n % Sm.L = n at *
 have HRH := Hn HR
 have HNH := Hn hN
 have C1 := Hn c1
 have HT := Hn hT
 clear HR hN c1 ha hT
 simp only [E4.v] at C1 ⊢
 go_enter Tryz.func76, Tryz.ntmps76
 go_upto_region 1 with fail
 go_cut [] (fun wx => Blc wx w.heap.size ⟨word64 n 0, word64 n 1, word64 n 2, word64 n 3⟩ ∧ wx.there (w.heap.size + 1) 0 32 ∧ w.heap.size + 1 < wx.heap.size ∧ Below w.heap.size w wx)
 case first =>
  go_wp2_with fail
  refine (C1.out _ (HT.out.keep (bl_alloc2 _ _ _))).mono ?_
  rintro e w1 ⟨r, rfl, hr, hb1⟩
  have e1 := HRH.out r hr
  subst e1
  clear hr
  have hB : Blc w1 w.heap.size a := ((Blc.new w a 41).keep (bl_alloc _ _)).keep hb1
  have hW : Wrt w1 w.heap.size := ((Wrt.new w a 41).keep (by simp) (bl_alloc _ _)).keep ((Blc.new w a 41).keep (bl_alloc _ _)).lt hb1
  have hz1 : w.heap.size + 1 < w1.heap.size := by have := hb1.size; simp at this; omega
  have hTh := there_keep (there_new (w.alloc (.cells #[.int .u64 a.x0, .int .u64 a.x1, .int .u64 a.x2, .int .u64 a.x3] 41)) #[.int .u8 0, .int .u8 0, .int .u8 0, .int .u8 0, .int .u8 0, .int .u8 0, .int .u8 0, .int .u8 0, .int .u8 0, .int .u8 0, .int .u8 0, .int .u8 0, .int .u8 0, .int .u8 0, .int .u8 0, .int .u8 0, .int .u8 0, .int .u8 0, .int .u8 0, .int .u8 0, .int .u8 0, .int .u8 0, .int .u8 0, .int .u8 0, .int .u8 0, .int .u8 0, .int .u8 0, .int .u8 0, .int .u8 0, .int .u8 0, .int .u8 0, .int .u8 0] 127) (by simp) hb1
  simp only [World.size_alloc] at hTh
  generalize word64 n 0 = x0 at *
  generalize word64 n 1 = x1 at *
  generalize word64 n 2 = x2 at *
  generalize word64 n 3 = x3 at *
  have G1 := Hn (hB.set ⟨x0, x1, x2, x3⟩)
  have G2 := Hn (World.there_setCells hTh w.heap.size 0 [.int .u64 x0, .int .u64 x1, .int .u64 x2, .int .u64 x3])
  have G3 := Hn (set4_below (w0 := w) w1 w.heap.size ⟨x0, x1, x2, x3⟩ (bl_trans (bl_alloc2 w _ _) hb1) (Nat.le_refl _))
  obtain ⟨c0, c1, c2, c3⟩ := hB
  obtain ⟨f0, f1, f2, f3⟩ := hW
  clear hTh hb1
  go_wp2_with fail
  go_meet
  exact ⟨G1.out, G2.out, by simpa using hz1, G3.out⟩
 case rest =>
 obtain ⟨hB, hTh, hz, hbel⟩ := hcut
 clear C1 HRH
 have hwd : ∀ q, q < 4 → wc.cell? ⟨w.heap.size, q, none⟩ = some (.int .u64 (word64 n q)) := fun q hq => by
  have h4 : q = 0 ∨ q = 1 ∨ q = 2 ∨ q = 3 := by omega
  rcases h4 with rfl | rfl | rfl | rfl
  ·exact hB.c0
  ·exact hB.c1
  ·exact hB.c2
  ·exact hB.c3
 have E0 : EncW w n w.heap.size wc.heap.size (w.heap.size + 1) 0 (wc.alloc (.cells #[.int .u8 0, .int .u8 0, .int .u8 0, .int .u8 0, .int .u8 0, .int .u8 0, .int .u8 0, .int .u8 0, .int .u8 0, .int .u8 0, .int .u8 0, .int .u8 0, .int .u8 0, .int .u8 0, .int .u8 0, .int .u8 0, .int .u8 0, .int .u8 0, .int .u8 0, .int .u8 0, .int .u8 0, .int .u8 0, .int .u8 0, .int .u8 0, .int .u8 0, .int .u8 0, .int .u8 0, .int .u8 0, .int .u8 0, .int .u8 0, .int .u8 0, .int .u8 0] 127)) := by
  refine ⟨fun q hq => cell_keep (hwd q hq) (bl_alloc _ _), fun j hj => ?_, fun j hj => by go_simp, World.there_alloc hTh _, bl_trans hbel (bl_alloc _ _)⟩
  rw [World.cell?_alloc_mark, if_neg (by omega)]
  have eZ : (#[.int .u8 0, .int .u8 0, .int .u8 0, .int .u8 0, .int .u8 0, .int .u8 0, .int .u8 0, .int .u8 0, .int .u8 0, .int .u8 0, .int .u8 0, .int .u8 0, .int .u8 0, .int .u8 0, .int .u8 0, .int .u8 0, .int .u8 0, .int .u8 0, .int .u8 0, .int .u8 0, .int .u8 0, .int .u8 0, .int .u8 0, .int .u8 0, .int .u8 0, .int .u8 0, .int .u8 0, .int .u8 0, .int .u8 0, .int .u8 0, .int .u8 0, .int .u8 0] : Array Value) = Array.replicate 32 (.int .u8 0) := rfl
  rw [eZ]
  simp [hj]
 have E0H := Hn E0
 clear E0 hwd hTh hbel hB
 go_wp2_with fail
 go_loopw [7] (fun i w' => ∃ k : Nat, k ≤ 32 ∧ i = .int .i64 k ∧ EncW w n w.heap.size wc.heap.size (w.heap.size + 1) k w') (fun i _ => 32 - (intOf i).toNat)
 case atStart => exact ⟨0, by omega, rfl, E0H.out⟩
 case round =>
  obtain ⟨k, hk, rfl, hE⟩ := hrel
  clear E0H
  by_cases hlt : k < 32
  ·have hw := hE.wd (k / 8) (by omega)
   have hb := hE.bt k hlt
   have hf := hE.fr k hlt
   have hN := HNH.out k
   have NEXT := Hn (hE.step hlt (by omega) (by omega))
   have hwb : 0 ≤ word64 n (k / 8) ∧ word64 n (k / 8) ≤ 18446744073709551615 := by unfold word64; omega
   rw [if_neg (by omega)] at hb
   have HN := Hn hN
   clear hE hN
   generalize word64 n (k / 8) = X at *
   go_wp2_with fail
   refine ⟨⟨k + 1, by omega, by go_num, ?_⟩, by simp [intOf]; omega⟩
   rw [HN.out]
   exact NEXT.out
  ·have hk32 : k = 32 := by omega
   subst hk32
   have hr : wr.rangeAt wc.heap.size 0 ((bytes n).map fun z => Value.int .u8 z) := fun j v hv => by
    obtain ⟨hj, rfl⟩ := bytesV n j v hv
    rw [Nat.zero_add, hE.bt j hj, if_pos hj]
   have hl : ((bytes n).map fun z => Value.int .u8 z).length = 32 := by simp [bytes]
   have ho : ((bytes n).map fun z => Value.int .u8 z).toArray.all (·.oneCell') = true := all_oneCell_toArray (fun v hv => by
    obtain ⟨z, _, rfl⟩ := List.mem_map.1 hv
    rfl)
   have hi : (Tryz.prog.info? 127).map (·.size) = some ((bytes n).map fun z => Value.int .u8 z).length := by rw [hl]; kernel_rfl
   have hu : Tryz.prog.underlying 127 = some (.array 32 5) := by kernel_rfl
   have hth := hE.th
   have hbel := Hn hE.bel
   clear hE
   generalize hcs : ((bytes n).map fun z => Value.int .u8 z) = cs at *
   have hth2 : wr.there (w.heap.size + 1) 0 cs.toArray.size := by simpa [hl] using hth
   have hi2 : (Tryz.prog.info? 127).map (·.size) = some cs.toArray.size := by simpa using hi
   have RD := run_loadVar_mid (P := Tryz.prog) (wr.setCells (w.heap.size + 1) 0 cs) (w.heap.size + 1) 0 127 cs _ (World.rangeAt_setCells_same wr (w.heap.size + 1) 0 cs (by rw [hl]; exact hth)) hu rfl hi
   have BEL : Below w.heap.size w (wr.setCells (w.heap.size + 1) 0 cs) := below_setCells (w.heap.size + 1) cs 0 hbel.out (by omega)
   have HU := Hn hu
   have HI := Hn hi
   have HI2 := Hn hi2
   have HTH := Hn hth2
   have HRA := Hn hr
   have HO := Hn ho
   have RDH := Hn RD
   have BELH := Hn BEL
   clear hth hth2 hu hi ho hi2 hr RD BEL
   go_upto_region 8 with fail
   go_wp2_with (first | refine wpList_load_mid rfl 127 _ rfl wc.heap.size 0 (by rfl) cs _ HRA.out HU.out rfl HI.out ?_ | refine wpList_store_mid rfl 127 _ _ rfl (w.heap.size + 1) 0 cs.toArray (by rfl) (by rfl) HTH.out HI2.out HO.out ?_)
   have RD := RDH.out
   refine bodyPost_ret (v := .agg cs.toArray) (results_cell1 Tryz.results76 _ _ _ _ _ (by rfl) RD) rfl ⟨by rw [hcs], ?_⟩
   exact BELH.out
end Go.Proofs.YtghcfcglakbkeaaGreatDoor
namespace Go.Proofs.YtghcfcglakbkeaaGreatDoor
open Go.RowKit
set_option linter.unusedVariables false
set_option linter.unusedSimpArgs false
open Cm (Wr Tm co bf Ls lf ins Eqm)
open Tr (cb By vn cb_len cb_app cb_one vn_len appNum_any)
namespace Ci
set_option maxRecDepth 100000
set_option maxHeartbeats 8000000
structure Gv (w w' : World) (v v' : Value) : Prop where
 g : w.grownBy w' v.ownBlock
 o : ∀ k, v'.ownBlock = some k → v.ownBlock = some k ∨ w.heap.size ≤ k
theorem Gv.trans {w w' w2 : World} {v v' v2 : Value} (h : Gv w w' v v') (k : Gv w' w2 v' v2) : Gv w w2 v v2 :=
 ⟨⟨k.g.os.trans h.g.os, k.g.tape.trans h.g.tape, k.g.output.trans h.g.output, Nat.le_trans h.g.size k.g.size, fun i hi hn => (k.g.block i (Nat.lt_of_lt_of_le hi h.g.size) (fun e => by
  rcases h.o i e.symm with h1 | h1
  ·exact hn h1.symm
  ·omega)).trans (h.g.block i hi hn)⟩, fun i hi => by
  rcases k.o i hi with h1 | h1
  ·exact h.o i h1
  ·exact Or.inr (Nat.le_trans h.g.size h1)⟩
theorem Gv.of {w w' : World} {v : Value} (h : Below w.heap.size w w') : Gv w w' v v := ⟨⟨h.os, h.tape, h.output, h.size, fun i hi _ => h.block i hi⟩, fun k hk => Or.inl hk⟩
theorem gv_of {w w' : World} {v v' : Value} (h3 : w.grownBy w' v.ownBlock) (h5 : v'.ownBlock = v.ownBlock ∨ v'.ownBlock = some w.heap.size) : Gv w w' v v' := ⟨h3, fun k hk => by
 rcases h5 with e1 | e1
 ·exact Or.inl (e1 ▸ hk)
 ·rw [e1] at hk; exact Or.inr (Nat.le_of_eq (Option.some.inj hk))⟩
theorem own_bytes {w : World} {base : Nat} {v : Value} {bs : List UInt8} (h : w.ownsRow base 5 1 v bs.length (cb bs)) (h0 : 1 ≤ bs.length) : ∃ g c : Nat, v = .slice (some ⟨g, 0, none⟩) bs.length c ∧ ∀ j u, (cb bs)[j]? = some u → w.cell? ((⟨g, 0, none⟩ : Addr).add j) = some u := by
 rcases h.2 with ⟨h1, h2⟩ | ⟨g, c, cur, h1, _⟩
 ·omega
 ·exact ⟨g, c, h1, fun j u hu => h.cells (by rw [h1]; rfl) j u hu⟩
theorem wp_appO {P : Program} {w : World} {o : Oper} {a : Act} {K : Act → World → Prop} {Q : Exit → Act → World → Prop} (s x : Operand) (t : TypeId)
  (ho : o.op = .call { callee := .builtin .append, args := #[s, x], argTypes := #[t, t] })
  (base : Nat) (e : TypeId) (i : TypeInfo) (z : Value) (size bytes : Nat) (ht : P.underlying t = some (.slice e)) (hi : P.info? e = some i) (hz : i.zero = some z)
  (hsize : i.size = size) (hby : i.bytes = bytes) (hzs : z.cells.size = size) (hsz : 0 < size)
  (v : Value) (n : Nat) (xs : List Value) (hs : a.eval s = v) (hown : w.ownsRow base e size v n xs)
  (ad : Addr) (m c : Nat) (news : List Value) (hx : a.eval x = .slice (some ad) m c) (hl : news.length = m * size) (hnews : ∀ j u, news[j]? = some u → w.cell? (ad.add j) = some u) (h1 : ∀ u ∈ news, u.oneCell' = true)
  (h63 : n + m ≤ maxLen) (hbytes : (n + m) * bytes ≤ 140737488355328) (hbase : base ≤ w.heap.size)
  (h : ∀ v' w', w'.ownsRow base e size v' (n + m) (xs ++ news) → Gv w w' v v' → K (a.put o.dst v') w') : o.wp P a w K Q := by
 obtain ⟨v', w', hr, h2, h3, h4, h5⟩ := run_append_own_at (P := P) w base t o.type e i z size bytes ht hi hz hsize hby hzs hsz v n xs hown ad m c news hl hnews h1 h63 hbytes hbase
 unfold Oper.wp execOp
 simp only [ho, resolve, invoke, builtin, Sem.run_bind, Sem.run_pure, Result.andThen_ok, List.map_toArray, List.map_cons, List.map_nil, hs, hx, hr]
 exact h v' w' h2 (gv_of h3 h5)
theorem u8info : Tryz.prog.info? 5 = some (Tryz.prog.info? 5).get! := by kernel_rfl
theorem wp_appY {w : World} {o : Oper} {a : Act} {K : Act → World → Prop} {Q : Exit → Act → World → Prop} (s x : Operand) (ho : o.op = .call { callee := .builtin .append, args := #[s, x], argTypes := #[61, 61] })
  (base : Nat) (v : Value) (bs cs : List UInt8) (hs : a.eval s = v) (hown : w.ownsRow base 5 1 v (bs).length (cb (bs))) (ad : Addr) (c : Nat) (hx : a.eval x = .slice (some ad) cs.length c) (hnews : ∀ j u, (cb cs)[j]? = some u → w.cell? (ad.add j) = some u) (hl : bs.length + cs.length ≤ 1099511627776) (hbase : base ≤ w.heap.size)
  (h : ∀ v' w', w'.ownsRow base 5 1 v' (bs ++ cs).length (cb (bs ++ cs)) → Gv w w' v v' → K (a.put o.dst v') w') : o.wp Tryz.prog a w K Q := by
 refine wp_appO s x 61 ho base 5 _ (.int .u8 0) 1 1 (by kernel_rfl) u8info (by kernel_rfl) (by kernel_rfl) (by kernel_rfl) rfl (by decide) v bs.length (cb bs) hs hown ad cs.length c (cb cs) hx (by rw [cb_len, Nat.mul_one]) hnews (cb_one cs) (by unfold maxLen; omega) (by omega) hbase (fun v' w' h1 h2 => h v' w' ?_ h2)
 rw [List.length_append, cb_app]
 exact h1
theorem apn_any (base : Nat) (v : Value) (bs : List UInt8) (n : Nat) (w : World) (ho : w.ownsRow base 5 1 v (bs).length (cb (bs))) (hb : base ≤ w.heap.size) (hl : bs.length ≤ 549755813888) (hn : n < 4611686018427387904) :
  Calls Tryz.prog 75 #[v, .int .i64 (n : Int)] w fun e w' => ∃ v', e = .returned v' ∧ w'.ownsRow base 5 1 v' (bs ++ vn n).length (cb (bs ++ vn n)) ∧ Gv w w' v v' := by
 have CA := Hn (appNum_any none 0 [] n w ⟨fun _ => ⟨rfl, rfl⟩, fun a ha => by cases ha⟩ (by show 0 ≤ _; omega) (by omega))
 have HO := Hn ho
 have HB := Hn hb
 have HL := Hn hl
 have u9 : IntKind.u64.wrap (n : Int) = (n : Int) := by
  show (n : Int) % 18446744073709551616 = (n : Int)
  omega
 clear ho hb hl hn
 go_enter Tryz.func75, Tryz.ntmps75
 go_upto_region 1 with fail
 go_wp2_with (first | (go_at_call 118; refine CA.out.mono ?_; rintro e w1 ⟨v1, rfl, ho1, hb1⟩; rw [List.nil_append] at ho1; obtain ⟨g1, c1, e1, hc1⟩ := own_bytes ho1 (vn_len n).1; subst e1; have B1 := Hn hb1; have C1 := Hn hc1; have O1 := Hn (own_keepT HO.out hb1); clear hb1 ho1 hc1 CA) | (at_builtin; have x4 : bs.length + (vn n).length ≤ maxLen := (by have := vn_len n; have := HL.out; unfold maxLen; omega); have x5 : (bs.length + (vn n).length) * 1 ≤ 140737488355328 := (by have := vn_len n; have := HL.out; omega); refine wpList_append_own_at _ rfl _ _ 61 rfl base 5 _ (.int .u8 0) 1 1 (by kernel_rfl) u8info (by kernel_rfl) (by kernel_rfl) (by kernel_rfl) rfl (by decide) v bs.length (cb bs) rfl O1.out ⟨g1, 0, none⟩ (vn n).length c1 (cb (vn n)) rfl (by rw [cb_len, Nat.mul_one]) C1.out (cb_one _) x4 x5 (Nat.le_trans HB.out B1.out.size) ?_; intro v2 w2 ho2 hg2 _ ht2; have O2 := Hn ho2; have G2 : Hid (Gv w1 w2 v v2) := Hn (gv_of hg2 ht2); clear ho2 hg2 ht2 x4 x5))
 exact bodyPost_ret (v := v2) (by simp [results, Tryz.results75, go_sem]) rfl ⟨v2, rfl, by rw [List.length_append, cb_app]; exact O2.out, (Gv.of B1.out).trans G2.out⟩
end Ci
end Go.Proofs.YtghcfcglakbkeaaGreatDoor
