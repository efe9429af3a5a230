import Derived.Test.YtpblcnefihhhoaaDoorVxA
import Derived.Test.YtpblcnefihhhoaaDoorZbr
import Derived.Test.YtpblcnefihhhoaaDoorVxD
import Derived.Laws.AppendOwnNone
namespace Go.Proofs.YtpblcnefihhhoaaDoor
open Go.RowKit
set_option linter.unusedVariables false
/-- the most operations of Once -/
def bo (B C : Nat) : Int := bdW (2 * ((B * C : Nat) : Int) + C + 2 * (rd (B * C) : Int) + 7)
set_option maxRecDepth 100000 in
set_option maxHeartbeats 8000000 in
theorem bound_in (B C : Nat) (hB0 : 1 ≤ B) (hB : B ≤ 64) (hC0 : 1 ≤ C) (hC : C ≤ 16) (hal : al B C = true) (w : World) : Calls Tryd.prog 8 #[.agg #[.int .i64 B, .int .i64 C]] w fun e w' => e = .returned (.int .i64 (bo B C)) ∧ Below w.heap.size w w' := by
  obtain ⟨n, hn⟩ : ∃ n, B * C = n := ⟨_, rfl⟩
  have hle : B * C ≤ 64 * 16 := Nat.mul_le_mul hB hC
  have hr := rd_le n
  obtain ⟨k, hk⟩ : ∃ k, rd n = k := ⟨_, rfl⟩
  obtain ⟨z, hz⟩ : ∃ z, bo B C = z := ⟨_, rfl⟩
  have AL := hidden (fun w => Allowed_any B C w)
  have SZ := hidden (fun w => Size_any B C n hn hB hC w)
  have RO := hidden (fun w => Rounds_any B C n hn hB hC w)
  have BD := hidden (fun w => Bound_any (2 * (n : Int) + C + 2 * (k : Int) + 7) (by omega) w)
  have hz' : bdW (2 * (n : Int) + C + 2 * (k : Int) + 7) = z := by rw [← hz, bo, hn, hk]
  rw [hz'] at BD
  rw [hk] at RO
  rw [hal] at AL
  have v1 : IntKind.i64.wrap (2 * (n : Int)) = 2 * (n : Int) := IntWalk.i64_in _ (by omega)
  have v2 : IntKind.i64.wrap (2 * (n : Int) + C) = 2 * (n : Int) + C := IntWalk.i64_in _ (by omega)
  have v3 : IntKind.i64.wrap (2 * (k : Int)) = 2 * (k : Int) := IntWalk.i64_in _ (by omega)
  have v4 : IntKind.i64.wrap (2 * (n : Int) + C + 2 * (k : Int)) = 2 * (n : Int) + C + 2 * (k : Int) := IntWalk.i64_in _ (by omega)
  have v5 : IntKind.i64.wrap (2 * (n : Int) + C + 2 * (k : Int) + 7) = 2 * (n : Int) + C + 2 * (k : Int) + 7 := IntWalk.i64_in _ (by omega)
  have B0 := hidden (bl_alloc w (.cells #[.int .i64 B, .int .i64 C] 23))
  have P0 := hidden (Pb.new w B C 23)
  rw [hz]
  clear hz hz' hk hn hle hr hal hB hC hB0 hC0
  go_enter Tryd.func8, Tryd.ntmps8
  go_upto_region 1 with fail
  generalize w.alloc (.cells #[.int .i64 B, .int .i64 C] 23) = w0 at *
  generalize w.heap.size = T at P0 ⊢
  have a0 := P0.out.c0; have a1 := P0.out.c1
  go_upto_region 3 with (first | (go_at_call 11; refine (AL.out _).mono ?_; rintro e w1 ⟨rfl, hb⟩; have B1 := hidden (bl_trans B0.out hb); have P1 := hidden (P0.out.keep hb); clear hb))
  have KS : Hid (∀ w', Below w1.heap.size w1 w' → (fun w' => Below w1.heap.size w1 w' ∧ w'.cell? ⟨T, 0, none⟩ = some (.int .i64 B) ∧ w'.cell? ⟨T, 1, none⟩ = some (.int .i64 C)) w') := hidden (fun w' h => ⟨h, (P1.out.keep h).c0, (P1.out.keep h).c1⟩)
  have K0 := hidden (KS.out _ (bl_drew w1))
  go_region_held3 (fun w' => Below w1.heap.size w1 w' ∧ w'.cell? ⟨T, 0, none⟩ = some (.int .i64 B) ∧ w'.cell? ⟨T, 1, none⟩ = some (.int .i64 C)) (first | with_reducible exact K0.out | with_reducible exact KA.out | with_reducible exact KB.out | with_reducible exact KC.out)
    (first | (go_at_call 14; refine (SZ.out _).mono ?_; rintro e wA ⟨rfl, hbA⟩; have KA := hidden (KS.out _ (bl_trans K0.out.1 hbA)); clear hbA) | (go_at_call 20; refine (RO.out _).mono ?_; rintro e wB ⟨rfl, hbB⟩; have KB := hidden (KS.out _ (bl_trans KA.out.1 hbB)); clear hbB) | (go_at_call 19; refine (BD.out _).mono ?_; rintro e wC ⟨rfl, hbC⟩; have KC := hidden (KS.out _ (bl_trans KB.out.1 hbC)); clear hbC))
  go_wp2_with fail
  refine bodyPost_ret (v := .int .i64 z) (by simp [results, Tryd.results8, go_sem]) rfl ⟨rfl, bl_trans B1.out KC.out.1⟩
set_option maxRecDepth 100000 in
set_option maxHeartbeats 8000000 in
theorem bound_out (b c : Int) (hal : al b c = false) (w : World) : Calls Tryd.prog 8 #[.agg #[.int .i64 b, .int .i64 c]] w fun e w' => e = .returned (.int .i64 0) ∧ Below w.heap.size w w' := by
  have AL := hidden (fun w => Allowed_any b c w)
  rw [hal] at AL
  have B0 := hidden (bl_alloc w (.cells #[.int .i64 b, .int .i64 c] 23))
  have P0 := hidden (Pb.new w b c 23)
  clear hal
  go_enter Tryd.func8, Tryd.ntmps8
  go_upto_region 1 with fail
  generalize w.alloc (.cells #[.int .i64 b, .int .i64 c] 23) = w0 at *
  have a0 := P0.out.c0; have a1 := P0.out.c1
  go_wp2_with (first | (go_at_call 11; refine (AL.out _).mono ?_; rintro e w1 ⟨rfl, hb⟩; have B1 := hidden (bl_trans B0.out hb); have P1 := hidden (P0.out.keep hb); clear hb))
  refine bodyPost_ret (v := .int .i64 0) (by simp [results, Tryd.results8, go_sem]) rfl ⟨rfl, B1.out⟩
set_option maxRecDepth 100000 in
set_option maxHeartbeats 8000000 in
theorem rbound_in (B C : Nat) (hB0 : 1 ≤ B) (hB : B ≤ 64) (hC0 : 1 ≤ C) (hC : C ≤ 16) (hal : al B C = true) (w : World) : Calls Tryd.prog 9 #[.agg #[.int .i64 B, .int .i64 C]] w fun e w' => e = .returned (.int .i64 (bo B C)) ∧ Below w.heap.size w w' := by
  obtain ⟨n, hn⟩ : ∃ n, B * C = n := ⟨_, rfl⟩
  have hle : B * C ≤ 64 * 16 := Nat.mul_le_mul hB hC
  have hr := rd_le n
  obtain ⟨k, hk⟩ : ∃ k, rd n = k := ⟨_, rfl⟩
  obtain ⟨z, hz⟩ : ∃ z, bo B C = z := ⟨_, rfl⟩
  have AL := hidden (fun w => Allowed_any B C w)
  have SZ := hidden (fun w => Size_any B C n hn hB hC w)
  have RO := hidden (fun w => Rounds_any B C n hn hB hC w)
  have BD := hidden (fun w => rBound_any (2 * (n : Int) + C + 2 * (k : Int) + 7) (by omega) w)
  have hz' : bdW (2 * (n : Int) + C + 2 * (k : Int) + 7) = z := by rw [← hz, bo, hn, hk]
  rw [hz'] at BD
  rw [hk] at RO
  rw [hal] at AL
  have v1 : IntKind.i64.wrap (2 * (n : Int)) = 2 * (n : Int) := IntWalk.i64_in _ (by omega)
  have v2 : IntKind.i64.wrap (2 * (n : Int) + C) = 2 * (n : Int) + C := IntWalk.i64_in _ (by omega)
  have v3 : IntKind.i64.wrap (2 * (k : Int)) = 2 * (k : Int) := IntWalk.i64_in _ (by omega)
  have v4 : IntKind.i64.wrap (2 * (n : Int) + C + 2 * (k : Int)) = 2 * (n : Int) + C + 2 * (k : Int) := IntWalk.i64_in _ (by omega)
  have v5 : IntKind.i64.wrap (2 * (n : Int) + C + 2 * (k : Int) + 7) = 2 * (n : Int) + C + 2 * (k : Int) + 7 := IntWalk.i64_in _ (by omega)
  have B0 := hidden (bl_alloc w (.cells #[.int .i64 B, .int .i64 C] 23))
  have P0 := hidden (Pb.new w B C 23)
  rw [hz]
  clear hz hz' hk hn hle hr hal hB hC hB0 hC0
  go_enter Tryd.func9, Tryd.ntmps9
  go_upto_region 1 with fail
  generalize w.alloc (.cells #[.int .i64 B, .int .i64 C] 23) = w0 at *
  generalize w.heap.size = T at P0 ⊢
  have a0 := P0.out.c0; have a1 := P0.out.c1
  go_upto_region 4 with (first | (go_at_call 11; refine (AL.out _).mono ?_; rintro e w1 ⟨rfl, hb⟩; have B1 := hidden (bl_trans B0.out hb); have P1 := hidden (P0.out.keep hb); clear hb))
  have KS : Hid (∀ w', Below w1.heap.size w1 w' → (fun w' => Below w1.heap.size w1 w' ∧ w'.cell? ⟨T, 0, none⟩ = some (.int .i64 B) ∧ w'.cell? ⟨T, 1, none⟩ = some (.int .i64 C)) w') := hidden (fun w' h => ⟨h, (P1.out.keep h).c0, (P1.out.keep h).c1⟩)
  have K0 := hidden (KS.out _ (bl_drew w1))
  go_region_held3 (fun w' => Below w1.heap.size w1 w' ∧ w'.cell? ⟨T, 0, none⟩ = some (.int .i64 B) ∧ w'.cell? ⟨T, 1, none⟩ = some (.int .i64 C)) (first | with_reducible exact K0.out | with_reducible exact KA.out | with_reducible exact KB.out | with_reducible exact KC.out)
    (first | (go_at_call 14; refine (SZ.out _).mono ?_; rintro e wA ⟨rfl, hbA⟩; have KA := hidden (KS.out _ (bl_trans K0.out.1 hbA)); clear hbA) | (go_at_call 20; refine (RO.out _).mono ?_; rintro e wB ⟨rfl, hbB⟩; have KB := hidden (KS.out _ (bl_trans KA.out.1 hbB)); clear hbB) | (go_at_call 21; refine (BD.out _).mono ?_; rintro e wC ⟨rfl, hbC⟩; have KC := hidden (KS.out _ (bl_trans KB.out.1 hbC)); clear hbC))
  go_wp2_with fail
  refine bodyPost_ret (v := .int .i64 z) (by simp [results, Tryd.results9, go_sem]) rfl ⟨rfl, bl_trans B1.out KC.out.1⟩
set_option maxRecDepth 100000 in
set_option maxHeartbeats 8000000 in
theorem rbound_out (b c : Int) (hal : al b c = false) (w : World) : Calls Tryd.prog 9 #[.agg #[.int .i64 b, .int .i64 c]] w fun e w' => e = .returned (.int .i64 0) ∧ Below w.heap.size w w' := by
  have AL := hidden (fun w => Allowed_any b c w)
  rw [hal] at AL
  have B0 := hidden (bl_alloc w (.cells #[.int .i64 b, .int .i64 c] 23))
  have P0 := hidden (Pb.new w b c 23)
  clear hal
  go_enter Tryd.func9, Tryd.ntmps9
  go_upto_region 1 with fail
  generalize w.alloc (.cells #[.int .i64 b, .int .i64 c] 23) = w0 at *
  have a0 := P0.out.c0; have a1 := P0.out.c1
  go_wp2_with (first | (go_at_call 11; refine (AL.out _).mono ?_; rintro e w1 ⟨rfl, hb⟩; have B1 := hidden (bl_trans B0.out hb); have P1 := hidden (P0.out.keep hb); clear hb))
  refine bodyPost_ret (v := .int .i64 0) (by simp [results, Tryd.results9, go_sem]) rfl ⟨rfl, B1.out⟩
end Go.Proofs.YtpblcnefihhhoaaDoor
namespace Go.Proofs.YtpblcnefihhhoaaDoor
open Go.RowKit
set_option linter.unusedVariables false
/-- a stream: its bytes -/
def Stm (w : World) (P : Option Addr) (L : Nat) (f : Nat → Int) : Prop := ∃ sb so : Nat, (0 < L → P = some ⟨sb, so, none⟩) ∧ (0 < L → Bs w sb so L f)
theorem Stm.keep {w1 w2 : World} {P : Option Addr} {L : Nat} {f : Nat → Int} (h : Stm w1 P L f) (hb : Below w1.heap.size w1 w2) : Stm w2 P L f := by
  obtain ⟨sb, so, h1, h2⟩ := h
  exact ⟨sb, so, h1, fun hl => (h2 hl).keep hb⟩
/-- bytes as values; the copy with its three bytes more -/
def blv (f : Nat → Int) (L : Nat) : List Value := (List.range L).map fun j => .int .u8 (f j)
theorem byteinfo : (Tryd.prog.info? 5).map (fun i => (i.zero, i.size, i.bytes)) = some (some (.int .u8 0), 1, 1) := by kernel_rfl
theorem blv_len (f : Nat → Int) (L : Nat) : (blv f L).length = L := by simp [blv]
theorem blv_at {w : World} {P : Option Addr} {L : Nat} {f : Nat → Int} {a : Addr} (h : Stm w P L f) (hP : P = some a) : ∀ j u, (blv f L)[j]? = some u → w.cell? (a.add j) = some u := fun j u hu => by
  have hj : j < L := by
    have := (List.getElem?_eq_some_iff.1 hu).1
    simpa [blv] using this
  obtain ⟨sb, so, h1, h2⟩ := h
  have e := h1 (by omega)
  rw [hP] at e
  obtain rfl := Option.some.inj e
  have hc := (h2 (by omega)).c j hj
  simp [blv, hj] at hu
  rw [← hu, Addr.add_lit]
  exact hc
theorem blv_one (f : Nat → Int) (L : Nat) : ∀ u ∈ blv f L, u.oneCell' = true := fun u hu => by
  obtain ⟨j, _, rfl⟩ := List.mem_map.1 hu
  rfl
theorem wp_appendI {P : Program} {w : World} {o : Oper} {a : Act} {K : Act → World → Prop} {Q : Exit → Act → World → Prop} (s x : Operand) (t : TypeId)
    (ho : o.op = .call { callee := .builtin .append, args := #[s, x], argTypes := #[t, t] })
    (base : Nat) (e : TypeId) (i : TypeInfo) (z : Value) (size bytes : Nat) (ht : P.underlying t = some (.slice e)) (hi : P.info? e = some i) (hz : i.zero = some z)
    (hsize : i.size = size) (hby : i.bytes = bytes) (hzs : z.cells.size = size) (hsz : 0 < size)
    (v : Value) (n : Nat) (xs : List Value) (hs : a.eval s = v) (hown : w.ownsRow base e size v n xs)
    (ad : Addr) (m c : Nat) (news : List Value) (hx : a.eval x = .slice (some ad) m c) (hl : news.length = m * size) (hnews : ∀ j u, news[j]? = some u → w.cell? (ad.add j) = some u) (h1 : ∀ u ∈ news, u.oneCell' = true)
    (h63 : n + m ≤ maxLen) (hbytes : (n + m) * bytes ≤ 140737488355328) (hbase : base ≤ w.heap.size)
    (h : ∀ v' w', w'.ownsRow base e size v' (n + m) (xs ++ news) → w.grownBy w' v.ownBlock → (v'.ownBlock = v.ownBlock ∨ v'.ownBlock = some w.heap.size) → K (a.put o.dst v') w') : o.wp P a w K Q := by
  obtain ⟨v', w', hr, h2, h3, h4, h5⟩ := run_append_own_at (P := P) w base t o.type e i z size bytes ht hi hz hsize hby hzs hsz v n xs hown ad m c news hl hnews h1 h63 hbytes hbase
  unfold Oper.wp execOp
  simp only [ho, resolve, invoke, builtin, Sem.run_bind, Sem.run_pure, Result.andThen_ok, List.map_toArray, List.map_cons, List.map_nil, hs, hx, hr]
  exact h v' w' h2 h3 h5
theorem own_keepX {w1 w2 : World} {base s : Nat} {e : TypeId} {v : Value} {n : Nat} {xs : List Value} (h : w1.ownsRow base e s v n xs) (hb : Below w1.heap.size w1 w2) : w2.ownsRow base e s v n xs :=
  h.kept (row := none) ⟨hb.os, hb.tape, hb.output, hb.size, fun k hk _ => hb.block k hk⟩ (by cases v.ownBlock <;> simp)
theorem wp_appB {o : Oper} {a : Act} {w : World} {K : Act → World → Prop} {Q : Exit → Act → World → Prop} (s x : Operand) (ho : o.op = .call { callee := .builtin .append, args := #[s, x], argTypes := #[24, 24] })
    (hs : a.eval s = .slice none 0 0) (P : Option Addr) (L cap : Nat) (f : Nat → Int) (hx : a.eval x = .slice P L cap) (hN : P = none → L = 0 ∧ cap = 0) (hS : Stm w P L f) (hL : L ≤ 140737488351232)
    (h : ∀ v' w', w'.ownsRow w.heap.size 5 1 v' L (blv f L) → Below w.heap.size w w' → K (a.put o.dst v') w') : o.wp Tryd.prog a w K Q := by
  obtain ⟨i0, hi, hz0, hz1, hz2⟩ := info_parts byteinfo
  have hu : Tryd.prog.underlying 24 = some (.slice 5) := by kernel_rfl
  have hown := World.ownsRow_nil w w.heap.size 5 1
  cases P with
  | none =>
    obtain ⟨rfl, rfl⟩ := hN rfl
    have hrun := run_append_owned_none (P := Tryd.prog) (w := w) w.heap.size 24 o.type 5 i0 1 hu hi (.slice none 0 0) 0 [] hown
    unfold Oper.wp
    simp [execOp, ho, resolve, invoke, builtin, hs, hx, hrun, Result.andThen]
    exact h _ _ hown (Below.refl _ _)
  | some ad =>
    refine wp_appendI s x 24 ho w.heap.size 5 i0 (.int .u8 0) 1 1 hu hi hz0 hz1 hz2 rfl (by decide) _ 0 [] hs hown ad L cap (blv f L) hx (by rw [blv_len, Nat.mul_one]) (blv_at hS rfl) (blv_one f L) (by unfold maxLen; omega) (by omega) (Nat.le_refl _) ?_
    intro v' w' h1 h2 _
    rw [Nat.zero_add, List.nil_append] at h1
    exact h v' w' h1 (below_grown h2 (Nat.le_refl _) (fun k hk => (hown.lt k hk).1))
/-- a list of scalars: none, or so many that lie in a block of a kind -/
def Sl (w : World) (p : Nat → Prop) (n : Nat) (g : Nat → E4) (V : Value) : Prop := (n = 0 ∧ V = .slice none 0 0) ∨ (∃ b o c : Nat, 0 < n ∧ V = .slice (some ⟨b, o, none⟩) n c ∧ Rlo w b o n g ∧ p b)
theorem Sl.keep {w w' : World} {p : Nat → Prop} {n : Nat} {g : Nat → E4} {V : Value} (h : Sl w p n g V) (hb : Below w.heap.size w w') : Sl w' p n g V := by
  rcases h with h | ⟨b, o, c, h0, h1, h2, h3⟩
  · exact .inl h
  · exact .inr ⟨b, o, c, h0, h1, h2.keep hb, h3⟩
theorem Sl.imp {w : World} {p q : Nat → Prop} {n : Nat} {g : Nat → E4} {V : Value} (h : Sl w p n g V) (hi : ∀ b, b < w.heap.size → p b → q b) : Sl w q n g V := by
  rcases h with h | ⟨b, o, c, h0, h1, h2, h3⟩
  · exact .inl h
  · exact .inr ⟨b, o, c, h0, h1, h2, hi b (World.block_lt_of_cell? w _ (h2.c0 0 h0)) h3⟩
theorem Sl.one {w : World} {p : Nat → Prop} {n : Nat} {g : Nat → E4} {V : Value} (h : Sl w p n g V) : ∃ P c, V = .slice P n c := by
  rcases h with ⟨rfl, rfl⟩ | ⟨b, o, c, h0, h1, h2⟩
  · exact ⟨none, 0, rfl⟩
  · exact ⟨_, c, h1⟩
theorem sameNums_sl (V1 V2 : Value) (n : Nat) (g : Nat → E4) (p q : Nat → Prop) (w : World) (hn : n ≤ 1024) (h1 : Sl w p n g V1) (h2 : Sl w q n g V2) :
    Calls Tryd.prog 7 #[V1, V2] w fun e w' => e = .returned (.bool true) ∧ Below w.heap.size w w' := by
  rcases h1 with ⟨e1, rfl⟩ | ⟨b1, o1, c1, e1, rfl, r1, -⟩
  · rcases h2 with ⟨e2, rfl⟩ | ⟨b2, o2, c2, e2, rfl, r2, -⟩
    · exact sameNums_nil w
    · omega
  · rcases h2 with ⟨e2, rfl⟩ | ⟨b2, o2, c2, e2, rfl, r2, -⟩
    · omega
    · exact sameNums_in b1 o1 b2 o2 n c1 c2 g w hn r1 r2
/-- what a ReadTape answers -/
def Rt (F : Nat) (x : World) (args : Array Value) (a r s t : E4) (E : Int) (N : Nat) (g1 g2 : Nat → E4) : Prop :=
  Calls Tryd.prog F args x fun e w' => ∃ VL VR : Value, e = .returned (.tuple #[.agg (tc a r s t VL VR).toArray, .int .i64 E]) ∧ Sl w' (fun b => x.heap.size ≤ b) N g1 VL ∧ Sl w' (fun b => x.heap.size ≤ b) N g2 VR ∧ Below x.heap.size x w'
theorem Rt.zero {F : Nat} {x : World} {args : Array Value} {E : Int} (g1 g2 : Nat → E4) (h : Calls Tryd.prog F args x fun e w' => e = .returned (.tuple #[.agg tz.toArray, .int .i64 E]) ∧ Below x.heap.size x w') : Rt F x args zero4 zero4 zero4 zero4 E 0 g1 g2 :=
  h.mono (by rintro e w' ⟨rfl, hb⟩; exact ⟨_, _, rfl, .inl ⟨rfl, rfl⟩, .inl ⟨rfl, rfl⟩, hb⟩)
theorem own_bs {w : World} {base L : Nat} {v : Value} {f : Nat → Int} (h : w.ownsRow base 5 1 v L (blv f L)) (h0 : 0 < L) (hf : ∀ j, j < L → 0 ≤ f j ∧ f j ≤ 255) : ∃ g c : Nat, v = .slice (some ⟨g, 0, none⟩) L c ∧ L ≤ c ∧ Bs w g 0 L f := by
  obtain ⟨g, c, rfl, hc⟩ := own_some4 h h0
  refine ⟨g, c, rfl, hc, fun j hj => ?_, hf⟩
  have := h.cellAt j (by omega)
  rw [Nat.zero_add, this]
  simp [blv, hj]
/-- both ReadTapes answer alike -/
theorem tapes_both (b c : Int) (P : Option Addr) (L cap : Nat) (f : Nat → Int) (hL : L ≤ 140737488351232) (hcap : L ≤ cap) (hf : ∀ j, j < L → 0 ≤ f j ∧ f j ≤ 255) :
    ∃ (a r s t : E4) (E : Int) (N : Nat) (g1 g2 : Nat → E4), N ≤ 1024 ∧ (∀ (x : World) (v : Value) (base : Nat), Tb x → x.ownsRow base 5 1 v L (blv f L) → Rt 4 x #[.agg #[.int .i64 b, .int .i64 c], v] a r s t E N g1 g2) ∧
      (∀ (x : World), Stm x P L f → Rt 5 x #[.agg #[.int .i64 b, .int .i64 c], .slice P L cap] a r s t E N g1 g2) := by
  by_cases hal : al b c = true
  · obtain ⟨B, C, rfl, rfl, hB0, hB, hC0, hC⟩ := al_in hal
    have hle : B * C ≤ 64 * 16 := Nat.mul_le_mul hB hC
    have hlo : 1 * 1 ≤ B * C := Nat.mul_le_mul hB0 hC0
    obtain ⟨n, hn⟩ : ∃ n, B * C = n := ⟨_, rfl⟩
    by_cases hs : L < 64 * (2 * n + 4)
    · refine ⟨zero4, zero4, zero4, zero4, 5, 0, fun _ => zero4, fun _ => zero4, by omega, fun x v base hT ho => ?_, fun x hS => ?_⟩
      · obtain ⟨p, k, rfl, -⟩ := own_shape4 ho
        exact Rt.zero _ _ (rtape_short B C n hn hB hC p L k hal hs x)
      · exact Rt.zero _ _ (rrtape_short B C n hn hB hC P L cap hal hs x)
    · refine ⟨tp f 0, tp f 1, tp f (2 * n + 2), tp f (2 * n + 3), 0, n, fun k => tp f (2 + k), fun k => tp f (n + 2 + k), by omega, fun x v base hT ho => ?_, fun x hS => ?_⟩
      · obtain ⟨g, k, rfl, hk, hbs⟩ := own_bs ho (by omega) hf
        refine (rtape_in B C n hn hB hC (by omega) g 0 L k f hal (by omega) (by omega) hk x hT hbs).mono ?_
        rintro e w' ⟨q1, d1, q2, d2, rfl, k1, k2, h1, h2, hb⟩
        exact ⟨_, _, rfl, .inr ⟨q1, 0, d1, by omega, rfl, h1.all, k1⟩, .inr ⟨q2, 0, d2, by omega, rfl, h2.all, k2⟩, hb⟩
      · obtain ⟨sb, so, e1, e2⟩ := hS
        obtain rfl := e1 (by omega)
        refine (rrtape_in B C n hn hB hC (by omega) sb so L cap f hal (by omega) (by omega) hcap x (e2 (by omega))).mono ?_
        rintro e w' ⟨q, k, rfl, k1, h1, hb⟩
        exact ⟨_, _, rfl, .inr ⟨q, 8, _, by omega, rfl, h1.part 2 n (by omega), k1⟩, .inr ⟨q, (n + 2) * 4, _, by omega, rfl, h1.part (n + 2) n (by omega), k1⟩, hb⟩
  · have hal' : al b c = false := by simpa using hal
    refine ⟨zero4, zero4, zero4, zero4, 130, 0, fun _ => zero4, fun _ => zero4, by omega, fun x v base hT ho => ?_, fun x hS => ?_⟩
    · obtain ⟨p, k, rfl, -⟩ := own_shape4 ho
      exact Rt.zero _ _ (rtape_out b c p L k hal' x)
    · exact Rt.zero _ _ (rrtape_out b c P L cap hal' x)
/-- both Bounds answer alike -/
theorem bounds_both (b c : Int) : ∃ z : Int, (∀ x, Calls Tryd.prog 8 #[.agg #[.int .i64 b, .int .i64 c]] x fun e w' => e = .returned (.int .i64 z) ∧ Below x.heap.size x w') ∧ (∀ x, Calls Tryd.prog 9 #[.agg #[.int .i64 b, .int .i64 c]] x fun e w' => e = .returned (.int .i64 z) ∧ Below x.heap.size x w') := by
  by_cases hal : al b c = true
  · obtain ⟨B, C, rfl, rfl, hB0, hB, hC0, hC⟩ := al_in hal
    exact ⟨bo B C, fun x => bound_in B C hB0 hB hC0 hC hal x, fun x => rbound_in B C hB0 hB hC0 hC hal x⟩
  · have hal' : al b c = false := by simpa using hal
    exact ⟨0, fun x => bound_out b c hal' x, fun x => rbound_out b c hal' x⟩
theorem num_any (y : E4) (hy : y.ok) (w : World) : Calls Tryd.prog 13 #[y.v] w fun e w' => e = .returned (lst y.n).v ∧ Below w.heap.size w w' := by
  have LE := hidden (fun x => fix (rleast_any y x hy) (show lst y.n = lst y.n from rfl))
  obtain ⟨r, hr⟩ : ∃ r, lst y.n = r := ⟨_, rfl⟩
  rw [hr] at LE ⊢
  have M0 := (Mw.start w).new [.int .u64 y.x0, .int .u64 y.x1, .int .u64 y.x2, .int .u64 y.x3] 27
  have M1 := M0.new [.int .u64 0, .int .u64 0, .int .u64 0, .int .u64 0] 34
  rw [World.size_alloc] at M1
  have MM := hidden M1
  clear M0 M1 hr hy
  simp only [E4.v] at LE ⊢
  go_enter Tryd.func13, Tryd.ntmps13
  go_upto_region 1 with fail
  generalize (w.alloc (.cells #[.int .u64 y.x0, .int .u64 y.x1, .int .u64 y.x2, .int .u64 y.x3] 27)).alloc (.cells #[.int .u64 0, .int .u64 0, .int .u64 0, .int .u64 0] 34) = w1 at *
  have r0 := (MM.out.r (w.heap.size, [.int .u64 y.x0, .int .u64 y.x1, .int .u64 y.x2, .int .u64 y.x3]) (by simp)).1
  have cy0 := r0 0 _ rfl; have cy1 := r0 1 _ rfl; have cy2 := r0 2 _ rfl; have cy3 := r0 3 _ rfl
  simp only [Nat.zero_add] at cy0 cy1 cy2 cy3
  clear r0
  go_wp2_with (first | (go_at_call 28; refine (LE.out _).mono ?_; rintro e w6 ⟨rfl, hb⟩; have M6 := hidden (MM.out.keep hb); clear hb MM cy0 cy1 cy2 cy3; have TH := hidden (M6.out.ther [.int .u64 r.x0, .int .u64 r.x1, .int .u64 r.x2, .int .u64 r.x3] (c := w.heap.size + 1) (o := [.int .u64 0, .int .u64 0, .int .u64 0, .int .u64 0]) (by simp) rfl)) | (refine wpList_storeL rfl 34 _ _ rfl rfl (w.heap.size + 1) 0 [.int .u64 r.x0, .int .u64 r.x1, .int .u64 r.x2, .int .u64 r.x3] (by rfl) (by rfl) TH.out i4_r (one4 r) ?_; have MF := hidden (M6.out.set (M := []) [.int .u64 r.x0, .int .u64 r.x1, .int .u64 r.x2, .int .u64 r.x3] (c := w.heap.size + 1) (o := [.int .u64 0, .int .u64 0, .int .u64 0, .int .u64 0]) (by simp) rfl (by simp)); clear M6; generalize World.setCells _ (w.heap.size + 1) 0 [.int .u64 r.x0, .int .u64 r.x1, .int .u64 r.x2, .int .u64 r.x3] = wf at *))
  have LD := hidden (MF.out.var (c := w.heap.size + 1) (ds := [.int .u64 r.x0, .int .u64 r.x1, .int .u64 r.x2, .int .u64 r.x3]) (by simp) Tryd.underlying34 rfl i4_r)
  refine bodyPost_ret (v := .agg [.int .u64 r.x0, .int .u64 r.x1, .int .u64 r.x2, .int .u64 r.x3].toArray) (results_cellM Tryd.results13 _ _ _ _ _ (by rfl) LD.out) rfl ⟨rfl, MF.out.bel⟩
end Go.Proofs.YtpblcnefihhhoaaDoor
namespace Go.Proofs.YtpblcnefihhhoaaDoor
open Go.RowKit
set_option linter.unusedVariables false
theorem tc1 {w : World} {p q : Nat → Prop} {n m : Nat} {g1 g2 : Nat → E4} {a r s t : E4} {V1 V2 : Value} (h1 : Sl w p n g1 V1) (h2 : Sl w q m g2 V2) : (tc a r s t V1 V2).toArray.all (·.oneCell') = true := by
  obtain ⟨P, c, rfl⟩ := h1.one
  obtain ⟨Q, d, rfl⟩ := h2.one
  exact tc_one _ _ _ _ _ _ _ _ _ _
theorem blk_lt {w : World} {A : Nat} {cs : List Value} {v : Value} (h : w.rangeAt A 0 cs) (h0 : cs[0]? = some v) : A < w.heap.size := World.block_lt_of_cell? w ⟨A, 0 + 0, none⟩ (h 0 v h0)
theorem cell_setCells_far (A : Nat) : ∀ (cs : List Value) (o : Nat) (w : World) (a : Addr), A ≠ a.block → (w.setCells A o cs).cell? a = w.cell? a
  | [], _, _, _, _ => rfl
  | v :: cs, o, w, a, h => by rw [World.setCells, cell_setCells_far A cs (o + 1) _ a h]; exact World.cell?_setCell_far _ _ _ _ h
theorem Rlo.far {w : World} {b o n : Nat} {g : Nat → E4} {A : Nat} (h : Rlo w b o n g) (hne : b ≠ A) (cs : List Value) : Rlo (w.setCells A 0 cs) b o n g := by
  have k : ∀ j, (w.setCells A 0 cs).cell? ⟨b, j, none⟩ = w.cell? ⟨b, j, none⟩ := fun j => cell_setCells_far A cs 0 w ⟨b, j, none⟩ (fun e => hne e.symm)
  exact ⟨fun j hj => (k _).trans (h.c0 j hj), fun j hj => (k _).trans (h.c1 j hj), fun j hj => (k _).trans (h.c2 j hj), fun j hj => (k _).trans (h.c3 j hj)⟩
theorem Sl.far {w : World} {n A : Nat} {g : Nat → E4} {V : Value} (h : Sl w (fun q => q ≠ A) n g V) (cs : List Value) : Sl (w.setCells A 0 cs) (fun _ => True) n g V := by
  rcases h with h | ⟨b, o, c, h0, h1, h2, h3⟩
  · exact .inl h
  · exact .inr ⟨b, o, c, h0, h1, h2.far h3 cs, trivial⟩
def lw1o : Array Oper := #[{ dst := some 15, op := Op.load 23 (Operand.tmp 4), type := 23, pos := "law.go:182", after := #[], guard := none },
  { dst := some 16, op := Op.move (Operand.tmp 1), type := 24, pos := "law.go:182", after := #[], guard := none },
  { dst := some 17, op := Op.call { callee := Callee.builtin Builtin.append, args := #[Operand.const (Value.slice none 0 0), Operand.tmp 16], argTypes := #[24, 24] }, type := 24, pos := "law.go:182", after := #[{ on := 1, ground := Ground.data }], guard := none },
  { dst := some 18, op := Op.call { callee := Callee.value (Operand.func 4), args := #[Operand.tmp 15, Operand.tmp 17], argTypes := #[23, 24] }, type := 32, pos := "law.go:182", after := #[{ on := 0, ground := Ground.data }, { on := 2, ground := Ground.data }, { on := 2, ground := Ground.chain }], guard := none },
  { dst := some 14, op := Op.move (Operand.tmp 18), type := 32, pos := "law.go:182", after := #[{ on := 3, ground := Ground.data }], guard := none },
  { dst := some 19, op := Op.extract (Operand.tmp 14) 0, type := 30, pos := "law.go:182", after := #[{ on := 4, ground := Ground.data }], guard := none },
  { dst := some 20, op := Op.extract (Operand.tmp 14) 1, type := 31, pos := "law.go:182", after := #[{ on := 4, ground := Ground.data }, { on := 8, ground := Ground.gcOnly Departure.lateStores }], guard := none },
  { dst := some 9, op := Op.alloc 30, type := 0, pos := "law.go:182", after := #[], guard := none },
  { dst := none, op := Op.store 30 (Operand.tmp 9) (Operand.tmp 19), type := 0, pos := "law.go:182", after := #[{ on := 7, ground := Ground.data }, { on := 5, ground := Ground.data }, { on := 3, ground := Ground.chain }, { on := 0, ground := Ground.phase }, { on := 1, ground := Ground.phase }, { on := 2, ground := Ground.phase }, { on := 3, ground := Ground.phase }, { on := 4, ground := Ground.phase }, { on := 5, ground := Ground.phase }, { on := 6, ground := Ground.textOnly Departure.lateStores }, { on := 7, ground := Ground.phase }], guard := none },
  { dst := some 10, op := Op.assign (Operand.tmp 20), type := 31, pos := "law.go:182", after := #[{ on := 6, ground := Ground.data }, { on := 8, ground := Ground.chain }, { on := 0, ground := Ground.phase }, { on := 1, ground := Ground.phase }, { on := 2, ground := Ground.phase }, { on := 3, ground := Ground.phase }, { on := 4, ground := Ground.phase }, { on := 5, ground := Ground.phase }, { on := 6, ground := Ground.phase }, { on := 7, ground := Ground.phase }, { on := 8, ground := Ground.phase }], guard := none }]
set_option maxRecDepth 100000 in
set_option maxHeartbeats 16000000 in
theorem lw1 (Q : Exit → Act → World → Prop) (P : Option Addr) (L cap T4 N : Nat) (b c E : Int) (f : Nat → Int) (g1 g2 : Nat → E4) (a r s t : E4) (u0 u2 u3 u5 u6 u7 u8 u9 u10 u11 u12 u13 u14 u15 u16 u17 u18 u19 u20 u21 u22 u23 u24 u25 u26 u27 u28 u29 u30 u31 u32 u33 u34 u35 u36 u37 u38 u39 u40 u41 u42 u43 u44 u45 u46 u47 u48 u49 u50 u51 u52 u53 u54 u55 u56 u57 u58 u59 u60 u61 u62 u63 u64 u65 u66 u67 u68 u69 u70 u71 u72 u73 u74 u75 u76 u77 u78 u79 u80 u81 u82 u83 u84 u85 u86 u87 u88 u89 u90 u91 u92 u93 u94 u95 u96 u97 u98 u99 u100 u101 u102 u103 u104 u105 u106 u107 u108 u109 u110 u111 u112 u113 u114 u115 u116 u117 u118 : Value) (W : World)
    (cp0 : W.cell? ⟨T4, 0, none⟩ = some (.int .i64 b)) (cp1 : W.cell? ⟨T4, 1, none⟩ = some (.int .i64 c)) (hN : P = none → L = 0 ∧ cap = 0) (hS : Stm W P L f) (hL : L ≤ 140737488351232)
    (C3 : Hid (∀ (x : World) (v : Value) (base : Nat), Below W.heap.size W x → x.ownsRow base 5 1 v L (blv f L) → Rt 4 x #[.agg #[.int .i64 b, .int .i64 c], v] a r s t E N g1 g2))
    (HQ : Hid (∀ v1 A VL VR wz, W.heap.size ≤ A → Below W.heap.size W wz → wz.rangeAt A 0 (tc a r s t VL VR) → wz.there A 0 18 → Sl wz (fun _ => True) N g1 VL → Sl wz (fun _ => True) N g2 VR → Q .normal ⟨#[u0, .slice P L cap, u2, u3, .pointer (some ⟨T4, 0, none⟩), u5, u6, u7, u8, .pointer (some ⟨A, 0, none⟩), .int .i64 E, u11, u12, u13, .tuple #[.agg (tc a r s t VL VR).toArray, .int .i64 E], .agg #[.int .i64 b, .int .i64 c], .slice P L cap, v1, .tuple #[.agg (tc a r s t VL VR).toArray, .int .i64 E], .agg (tc a r s t VL VR).toArray, .int .i64 E, u21, u22, u23, u24, u25, u26, u27, u28, u29, u30, u31, u32, u33, u34, u35, u36, u37, u38, u39, u40, u41, u42, u43, u44, u45, u46, u47, u48, u49, u50, u51, u52, u53, u54, u55, u56, u57, u58, u59, u60, u61, u62, u63, u64, u65, u66, u67, u68, u69, u70, u71, u72, u73, u74, u75, u76, u77, u78, u79, u80, u81, u82, u83, u84, u85, u86, u87, u88, u89, u90, u91, u92, u93, u94, u95, u96, u97, u98, u99, u100, u101, u102, u103, u104, u105, u106, u107, u108, u109, u110, u111, u112, u113, u114, u115, u116, u117, u118], []⟩ wz)) : (Code.region 1 lw1o true).wp Tryd.prog Q ⟨#[u0, .slice P L cap, u2, u3, .pointer (some ⟨T4, 0, none⟩), u5, u6, u7, u8, u9, u10, u11, u12, u13, u14, u15, u16, u17, u18, u19, u20, u21, u22, u23, u24, u25, u26, u27, u28, u29, u30, u31, u32, u33, u34, u35, u36, u37, u38, u39, u40, u41, u42, u43, u44, u45, u46, u47, u48, u49, u50, u51, u52, u53, u54, u55, u56, u57, u58, u59, u60, u61, u62, u63, u64, u65, u66, u67, u68, u69, u70, u71, u72, u73, u74, u75, u76, u77, u78, u79, u80, u81, u82, u83, u84, u85, u86, u87, u88, u89, u90, u91, u92, u93, u94, u95, u96, u97, u98, u99, u100, u101, u102, u103, u104, u105, u106, u107, u108, u109, u110, u111, u112, u113, u114, u115, u116, u117, u118], []⟩ W := by
  have HX := hidden (show (P = none → L = 0 ∧ cap = 0) ∧ Stm W P L f ∧ L ≤ 140737488351232 from ⟨hN, hS, hL⟩)
  clear hN hS hL
  unfold lw1o
  refine wp_region_noPanic ?_
  refine wp_region_held_drew (S := fun x => Below W.heap.size W x) (by kernel_rfl) (bl_drew W) (fun hH0 => ?_)
  refine wpAnyH_take (i := 0) (oi := { dst := some 15, op := Op.load 23 (Operand.tmp 4), type := 23, pos := "law.go:182", after := #[], guard := none }) (v := .agg #[.int .i64 b, .int .i64 c]) rfl (by kernel_rfl) (by kernel_rfl) (by kernel_rfl) (fun _ _ _ h => h) (Or.inl ⟨by rfl, fun w0 hSw => ?_⟩) hH0 ?_
  · (have hS : Below W.heap.size W w0 := hSw; have a0 := cell_keep cp0 hS; have a1 := cell_keep cp1 hS; clear hS hSw; go_simp)
  simp only [Act.put, List.setIfInBounds_toArray, List.set_cons_zero, List.set_cons_succ]
  refine wpAnyH_take (i := 1) (oi := { dst := some 16, op := Op.move (Operand.tmp 1), type := 24, pos := "law.go:182", after := #[], guard := none }) (v := .slice P L cap) rfl (by kernel_rfl) (by kernel_rfl) (by kernel_rfl) (fun _ _ _ h => h) (Or.inl ⟨by rfl, fun w0 hSw => ?_⟩) hH0 ?_
  · (clear hSw; go_simp)
  simp only [Act.put, List.setIfInBounds_toArray, List.set_cons_zero, List.set_cons_succ]
  refine wpAnyH_ready (rs := [2, 7]) (by kernel_rfl) (by simp) ?_
  refine AllReadyH.cons (o := { dst := some 17, op := Op.call { callee := Callee.builtin Builtin.append, args := #[Operand.const (Value.slice none 0 0), Operand.tmp 16], argTypes := #[24, 24] }, type := 24, pos := "law.go:182", after := #[{ on := 1, ground := Ground.data }], guard := none }) rfl (fun K hK => ?_) (AllReadyH.cons (o := { dst := some 9, op := Op.alloc 30, type := 0, pos := "law.go:182", after := #[], guard := none }) rfl (fun K hK => ?_) AllReadyH.nil)
  · have HH := hidden hH0
    clear hH0
    refine wp_appB (.const (.slice none 0 0)) (.tmp 16) rfl rfl P L cap f rfl HX.out.1 (HX.out.2.1.keep HH.out) HX.out.2.2 (fun v1 wn1 hov hb => ?_)
    have OV := hidden (hov)
    have SN := hidden (bl_trans HH.out hb)
    clear HH hb hov
    simp only [Act.put, List.setIfInBounds_toArray, List.set_cons_zero, List.set_cons_succ]
    refine hK.out _ _ SN.out (fun hH1 => ?_)
    clear hK K SN
    refine wpAnyH_ready (rs := [3, 7]) (by kernel_rfl) (by simp) ?_
    refine AllReadyH.cons (o := { dst := some 18, op := Op.call { callee := Callee.value (Operand.func 4), args := #[Operand.tmp 15, Operand.tmp 17], argTypes := #[23, 24] }, type := 32, pos := "law.go:182", after := #[{ on := 0, ground := Ground.data }, { on := 2, ground := Ground.data }, { on := 2, ground := Ground.chain }], guard := none }) rfl (fun K hK => ?_) (AllReadyH.cons (o := { dst := some 9, op := Op.alloc 30, type := 0, pos := "law.go:182", after := #[], guard := none }) rfl (fun K hK => ?_) AllReadyH.nil)
    · have HH := hidden hH1
      clear hH1
      go_simp
      refine (C3.out _ _ _ HH.out OV.out).mono ?_
      rintro e wn2 ⟨VL, VR, rfl, hl, hr, hb⟩
      have S1 := hidden (hl.imp (q := fun _ => True) (fun _ _ _ => trivial))
      have S2 := hidden (hr.imp (q := fun _ => True) (fun _ _ _ => trivial))
      replace OV := hidden (own_keepX OV.out hb)
      have SN := hidden (bl_trans HH.out hb)
      clear HH hb C3 hl hr
      go_wp2_with fail
      refine hK.out _ _ SN.out (fun hH2 => ?_)
      clear hK K SN
      refine wpAnyH_take (i := 4) (oi := { dst := some 14, op := Op.move (Operand.tmp 18), type := 32, pos := "law.go:182", after := #[{ on := 3, ground := Ground.data }], guard := none }) (v := .tuple #[.agg (tc a r s t VL VR).toArray, .int .i64 E]) rfl (by kernel_rfl) (by kernel_rfl) (by kernel_rfl) (fun _ _ _ h => h) (Or.inl ⟨by rfl, fun w0 hSw => ?_⟩) hH2 ?_
      · (clear hSw; go_simp)
      simp only [Act.put, List.setIfInBounds_toArray, List.set_cons_zero, List.set_cons_succ]
      refine wpAnyH_take (i := 5) (oi := { dst := some 19, op := Op.extract (Operand.tmp 14) 0, type := 30, pos := "law.go:182", after := #[{ on := 4, ground := Ground.data }], guard := none }) (v := .agg (tc a r s t VL VR).toArray) rfl (by kernel_rfl) (by kernel_rfl) (by kernel_rfl) (fun _ _ _ h => h) (Or.inl ⟨by rfl, fun w0 hSw => ?_⟩) hH2 ?_
      · (clear hSw; go_simp)
      simp only [Act.put, List.setIfInBounds_toArray, List.set_cons_zero, List.set_cons_succ]
      refine wpAnyH_take (i := 6) (oi := { dst := some 20, op := Op.extract (Operand.tmp 14) 1, type := 31, pos := "law.go:182", after := #[{ on := 4, ground := Ground.data }, { on := 8, ground := Ground.gcOnly Departure.lateStores }], guard := none }) (v := .int .i64 E) rfl (by kernel_rfl) (by kernel_rfl) (by kernel_rfl) (fun _ _ _ h => h) (Or.inl ⟨by rfl, fun w0 hSw => ?_⟩) hH2 ?_
      · (clear hSw; go_simp)
      simp only [Act.put, List.setIfInBounds_toArray, List.set_cons_zero, List.set_cons_succ]
      refine wpAnyH_ready (rs := [7]) (by kernel_rfl) (by simp) ?_
      refine AllReadyH.cons (o := { dst := some 9, op := Op.alloc 30, type := 0, pos := "law.go:182", after := #[], guard := none }) rfl (fun K hK => ?_) AllReadyH.nil
      have HH := hidden hH2
      clear hH2
      refine wp_allocX tz ptzv rfl (fun A wq3 hA hb hth hra => ?_)
      have GA := hidden (show W.heap.size ≤ A by rw [hA]; exact HH.out.size)
      have TH := hidden hth
      replace OV := hidden (own_keepX OV.out hb)
      have S1x := (S1.out.imp (q := fun q => q ≠ A) (fun q h _ => by omega)).keep hb
      replace S1 := hidden S1x
      clear S1x
      have S2x := (S2.out.imp (q := fun q => q ≠ A) (fun q h _ => by omega)).keep hb
      replace S2 := hidden S2x
      clear S2x
      have GL := hidden (blk_lt hra rfl)
      have SN := hidden (bl_trans HH.out hb)
      clear HH hb hth hra hA
      simp only [Act.put, List.setIfInBounds_toArray, List.set_cons_zero, List.set_cons_succ]
      refine hK.out _ _ SN.out (fun hH3 => ?_)
      clear hK K SN
      have HH := hidden hH3
      clear hH3
      refine wpAnyH_ready (rs := [8]) (by kernel_rfl) (by simp) ?_
      refine AllReadyH.cons (o := { dst := none, op := Op.store 30 (Operand.tmp 9) (Operand.tmp 19), type := 0, pos := "law.go:182", after := #[{ on := 7, ground := Ground.data }, { on := 5, ground := Ground.data }, { on := 3, ground := Ground.chain }, { on := 0, ground := Ground.phase }, { on := 1, ground := Ground.phase }, { on := 2, ground := Ground.phase }, { on := 3, ground := Ground.phase }, { on := 4, ground := Ground.phase }, { on := 5, ground := Ground.phase }, { on := 6, ground := Ground.textOnly Departure.lateStores }, { on := 7, ground := Ground.phase }], guard := none }) rfl (fun K hK => ?_) AllReadyH.nil
      refine wp_store_mid 30 _ _ rfl A 0 (tc a r s t VL VR).toArray (by rfl) (by rfl) TH.out ptinfo (tc1 S1.out S2.out) ?_
      have FQ := hidden (HQ.out v1 A VL VR _ GA.out (below_setCellsM A _ 0 HH.out GA.out) (World.rangeAt_setCells_same _ A 0 _ TH.out) (there_setM TH.out A _) (S1.out.far _) (S2.out.far _))
      refine hK.out _ _ (below_setCellsM A _ 0 HH.out GA.out) (fun hF => ?_)
      clear hK K HH
      simp only [Act.put]
      refine wpAnyH_take (i := 9) (oi := { dst := some 10, op := Op.assign (Operand.tmp 20), type := 31, pos := "law.go:182", after := #[{ on := 6, ground := Ground.data }, { on := 8, ground := Ground.chain }, { on := 0, ground := Ground.phase }, { on := 1, ground := Ground.phase }, { on := 2, ground := Ground.phase }, { on := 3, ground := Ground.phase }, { on := 4, ground := Ground.phase }, { on := 5, ground := Ground.phase }, { on := 6, ground := Ground.phase }, { on := 7, ground := Ground.phase }, { on := 8, ground := Ground.phase }], guard := none }) (v := .int .i64 E) rfl (by kernel_rfl) (by kernel_rfl) (by kernel_rfl) (fun _ _ _ h => h) (Or.inl ⟨by rfl, fun w0 hSw => ?_⟩) hF ?_
      · (clear hSw; go_simp)
      simp only [Act.put, List.setIfInBounds_toArray, List.set_cons_zero, List.set_cons_succ]
      refine wpAnyH_done (by kernel_rfl) ?_ _
      refine NoPanic.normal ?_
      exact FQ.out
    · have HH := hidden hH1
      clear hH1
      refine wp_allocX tz ptzv rfl (fun A wq2 hA hb hth hra => ?_)
      have GA := hidden (show W.heap.size ≤ A by rw [hA]; exact HH.out.size)
      have TH := hidden hth
      replace OV := hidden (own_keepX OV.out hb)
      have GL := hidden (blk_lt hra rfl)
      have SN := hidden (bl_trans HH.out hb)
      clear HH hb hth hra hA
      simp only [Act.put, List.setIfInBounds_toArray, List.set_cons_zero, List.set_cons_succ]
      refine hK.out _ _ SN.out (fun hH2 => ?_)
      clear hK K SN
      refine wpAnyH_ready (rs := [3]) (by kernel_rfl) (by simp) ?_
      refine AllReadyH.cons (o := { dst := some 18, op := Op.call { callee := Callee.value (Operand.func 4), args := #[Operand.tmp 15, Operand.tmp 17], argTypes := #[23, 24] }, type := 32, pos := "law.go:182", after := #[{ on := 0, ground := Ground.data }, { on := 2, ground := Ground.data }, { on := 2, ground := Ground.chain }], guard := none }) rfl (fun K hK => ?_) AllReadyH.nil
      have HH := hidden hH2
      clear hH2
      go_simp
      refine (C3.out _ _ _ HH.out OV.out).mono ?_
      rintro e wn3 ⟨VL, VR, rfl, hl, hr, hb⟩
      have S1 := hidden (hl.imp (q := fun q => q ≠ A) (fun q _ h => by have := GL.out; omega))
      have S2 := hidden (hr.imp (q := fun q => q ≠ A) (fun q _ h => by have := GL.out; omega))
      replace OV := hidden (own_keepX OV.out hb)
      replace TH := hidden (there_keepM TH.out hb)
      replace GL := hidden (Nat.lt_of_lt_of_le GL.out hb.size)
      have SN := hidden (bl_trans HH.out hb)
      clear HH hb C3 hl hr
      go_wp2_with fail
      refine hK.out _ _ SN.out (fun hH3 => ?_)
      clear hK K SN
      refine wpAnyH_take (i := 4) (oi := { dst := some 14, op := Op.move (Operand.tmp 18), type := 32, pos := "law.go:182", after := #[{ on := 3, ground := Ground.data }], guard := none }) (v := .tuple #[.agg (tc a r s t VL VR).toArray, .int .i64 E]) rfl (by kernel_rfl) (by kernel_rfl) (by kernel_rfl) (fun _ _ _ h => h) (Or.inl ⟨by rfl, fun w0 hSw => ?_⟩) hH3 ?_
      · (clear hSw; go_simp)
      simp only [Act.put, List.setIfInBounds_toArray, List.set_cons_zero, List.set_cons_succ]
      refine wpAnyH_take (i := 5) (oi := { dst := some 19, op := Op.extract (Operand.tmp 14) 0, type := 30, pos := "law.go:182", after := #[{ on := 4, ground := Ground.data }], guard := none }) (v := .agg (tc a r s t VL VR).toArray) rfl (by kernel_rfl) (by kernel_rfl) (by kernel_rfl) (fun _ _ _ h => h) (Or.inl ⟨by rfl, fun w0 hSw => ?_⟩) hH3 ?_
      · (clear hSw; go_simp)
      simp only [Act.put, List.setIfInBounds_toArray, List.set_cons_zero, List.set_cons_succ]
      refine wpAnyH_take (i := 6) (oi := { dst := some 20, op := Op.extract (Operand.tmp 14) 1, type := 31, pos := "law.go:182", after := #[{ on := 4, ground := Ground.data }, { on := 8, ground := Ground.gcOnly Departure.lateStores }], guard := none }) (v := .int .i64 E) rfl (by kernel_rfl) (by kernel_rfl) (by kernel_rfl) (fun _ _ _ h => h) (Or.inl ⟨by rfl, fun w0 hSw => ?_⟩) hH3 ?_
      · (clear hSw; go_simp)
      simp only [Act.put, List.setIfInBounds_toArray, List.set_cons_zero, List.set_cons_succ]
      have HH := hidden hH3
      clear hH3
      refine wpAnyH_ready (rs := [8]) (by kernel_rfl) (by simp) ?_
      refine AllReadyH.cons (o := { dst := none, op := Op.store 30 (Operand.tmp 9) (Operand.tmp 19), type := 0, pos := "law.go:182", after := #[{ on := 7, ground := Ground.data }, { on := 5, ground := Ground.data }, { on := 3, ground := Ground.chain }, { on := 0, ground := Ground.phase }, { on := 1, ground := Ground.phase }, { on := 2, ground := Ground.phase }, { on := 3, ground := Ground.phase }, { on := 4, ground := Ground.phase }, { on := 5, ground := Ground.phase }, { on := 6, ground := Ground.textOnly Departure.lateStores }, { on := 7, ground := Ground.phase }], guard := none }) rfl (fun K hK => ?_) AllReadyH.nil
      refine wp_store_mid 30 _ _ rfl A 0 (tc a r s t VL VR).toArray (by rfl) (by rfl) TH.out ptinfo (tc1 S1.out S2.out) ?_
      have FQ := hidden (HQ.out v1 A VL VR _ GA.out (below_setCellsM A _ 0 HH.out GA.out) (World.rangeAt_setCells_same _ A 0 _ TH.out) (there_setM TH.out A _) (S1.out.far _) (S2.out.far _))
      refine hK.out _ _ (below_setCellsM A _ 0 HH.out GA.out) (fun hF => ?_)
      clear hK K HH
      simp only [Act.put]
      refine wpAnyH_take (i := 9) (oi := { dst := some 10, op := Op.assign (Operand.tmp 20), type := 31, pos := "law.go:182", after := #[{ on := 6, ground := Ground.data }, { on := 8, ground := Ground.chain }, { on := 0, ground := Ground.phase }, { on := 1, ground := Ground.phase }, { on := 2, ground := Ground.phase }, { on := 3, ground := Ground.phase }, { on := 4, ground := Ground.phase }, { on := 5, ground := Ground.phase }, { on := 6, ground := Ground.phase }, { on := 7, ground := Ground.phase }, { on := 8, ground := Ground.phase }], guard := none }) (v := .int .i64 E) rfl (by kernel_rfl) (by kernel_rfl) (by kernel_rfl) (fun _ _ _ h => h) (Or.inl ⟨by rfl, fun w0 hSw => ?_⟩) hF ?_
      · (clear hSw; go_simp)
      simp only [Act.put, List.setIfInBounds_toArray, List.set_cons_zero, List.set_cons_succ]
      refine wpAnyH_done (by kernel_rfl) ?_ _
      refine NoPanic.normal ?_
      exact FQ.out
  · have HH := hidden hH0
    clear hH0
    refine wp_allocX tz ptzv rfl (fun A wq1 hA hb hth hra => ?_)
    have GA := hidden (show W.heap.size ≤ A by rw [hA]; exact HH.out.size)
    have TH := hidden hth
    have GL := hidden (blk_lt hra rfl)
    have SN := hidden (bl_trans HH.out hb)
    clear HH hb hth hra hA
    simp only [Act.put, List.setIfInBounds_toArray, List.set_cons_zero, List.set_cons_succ]
    refine hK.out _ _ SN.out (fun hH1 => ?_)
    clear hK K SN
    refine wpAnyH_ready (rs := [2]) (by kernel_rfl) (by simp) ?_
    refine AllReadyH.cons (o := { dst := some 17, op := Op.call { callee := Callee.builtin Builtin.append, args := #[Operand.const (Value.slice none 0 0), Operand.tmp 16], argTypes := #[24, 24] }, type := 24, pos := "law.go:182", after := #[{ on := 1, ground := Ground.data }], guard := none }) rfl (fun K hK => ?_) AllReadyH.nil
    have HH := hidden hH1
    clear hH1
    refine wp_appB (.const (.slice none 0 0)) (.tmp 16) rfl rfl P L cap f rfl HX.out.1 (HX.out.2.1.keep HH.out) HX.out.2.2 (fun v1 wn2 hov hb => ?_)
    replace TH := hidden (there_keepM TH.out hb)
    replace GL := hidden (Nat.lt_of_lt_of_le GL.out hb.size)
    have OV := hidden (hov)
    have SN := hidden (bl_trans HH.out hb)
    clear HH hb hov
    simp only [Act.put, List.setIfInBounds_toArray, List.set_cons_zero, List.set_cons_succ]
    refine hK.out _ _ SN.out (fun hH2 => ?_)
    clear hK K SN
    refine wpAnyH_ready (rs := [3]) (by kernel_rfl) (by simp) ?_
    refine AllReadyH.cons (o := { dst := some 18, op := Op.call { callee := Callee.value (Operand.func 4), args := #[Operand.tmp 15, Operand.tmp 17], argTypes := #[23, 24] }, type := 32, pos := "law.go:182", after := #[{ on := 0, ground := Ground.data }, { on := 2, ground := Ground.data }, { on := 2, ground := Ground.chain }], guard := none }) rfl (fun K hK => ?_) AllReadyH.nil
    have HH := hidden hH2
    clear hH2
    go_simp
    refine (C3.out _ _ _ HH.out OV.out).mono ?_
    rintro e wn3 ⟨VL, VR, rfl, hl, hr, hb⟩
    have S1 := hidden (hl.imp (q := fun q => q ≠ A) (fun q _ h => by have := GL.out; omega))
    have S2 := hidden (hr.imp (q := fun q => q ≠ A) (fun q _ h => by have := GL.out; omega))
    replace TH := hidden (there_keepM TH.out hb)
    replace GL := hidden (Nat.lt_of_lt_of_le GL.out hb.size)
    replace OV := hidden (own_keepX OV.out hb)
    have SN := hidden (bl_trans HH.out hb)
    clear HH hb C3 hl hr
    go_wp2_with fail
    refine hK.out _ _ SN.out (fun hH3 => ?_)
    clear hK K SN
    refine wpAnyH_take (i := 4) (oi := { dst := some 14, op := Op.move (Operand.tmp 18), type := 32, pos := "law.go:182", after := #[{ on := 3, ground := Ground.data }], guard := none }) (v := .tuple #[.agg (tc a r s t VL VR).toArray, .int .i64 E]) rfl (by kernel_rfl) (by kernel_rfl) (by kernel_rfl) (fun _ _ _ h => h) (Or.inl ⟨by rfl, fun w0 hSw => ?_⟩) hH3 ?_
    · (clear hSw; go_simp)
    simp only [Act.put, List.setIfInBounds_toArray, List.set_cons_zero, List.set_cons_succ]
    refine wpAnyH_take (i := 5) (oi := { dst := some 19, op := Op.extract (Operand.tmp 14) 0, type := 30, pos := "law.go:182", after := #[{ on := 4, ground := Ground.data }], guard := none }) (v := .agg (tc a r s t VL VR).toArray) rfl (by kernel_rfl) (by kernel_rfl) (by kernel_rfl) (fun _ _ _ h => h) (Or.inl ⟨by rfl, fun w0 hSw => ?_⟩) hH3 ?_
    · (clear hSw; go_simp)
    simp only [Act.put, List.setIfInBounds_toArray, List.set_cons_zero, List.set_cons_succ]
    refine wpAnyH_take (i := 6) (oi := { dst := some 20, op := Op.extract (Operand.tmp 14) 1, type := 31, pos := "law.go:182", after := #[{ on := 4, ground := Ground.data }, { on := 8, ground := Ground.gcOnly Departure.lateStores }], guard := none }) (v := .int .i64 E) rfl (by kernel_rfl) (by kernel_rfl) (by kernel_rfl) (fun _ _ _ h => h) (Or.inl ⟨by rfl, fun w0 hSw => ?_⟩) hH3 ?_
    · (clear hSw; go_simp)
    simp only [Act.put, List.setIfInBounds_toArray, List.set_cons_zero, List.set_cons_succ]
    have HH := hidden hH3
    clear hH3
    refine wpAnyH_ready (rs := [8]) (by kernel_rfl) (by simp) ?_
    refine AllReadyH.cons (o := { dst := none, op := Op.store 30 (Operand.tmp 9) (Operand.tmp 19), type := 0, pos := "law.go:182", after := #[{ on := 7, ground := Ground.data }, { on := 5, ground := Ground.data }, { on := 3, ground := Ground.chain }, { on := 0, ground := Ground.phase }, { on := 1, ground := Ground.phase }, { on := 2, ground := Ground.phase }, { on := 3, ground := Ground.phase }, { on := 4, ground := Ground.phase }, { on := 5, ground := Ground.phase }, { on := 6, ground := Ground.textOnly Departure.lateStores }, { on := 7, ground := Ground.phase }], guard := none }) rfl (fun K hK => ?_) AllReadyH.nil
    refine wp_store_mid 30 _ _ rfl A 0 (tc a r s t VL VR).toArray (by rfl) (by rfl) TH.out ptinfo (tc1 S1.out S2.out) ?_
    have FQ := hidden (HQ.out v1 A VL VR _ GA.out (below_setCellsM A _ 0 HH.out GA.out) (World.rangeAt_setCells_same _ A 0 _ TH.out) (there_setM TH.out A _) (S1.out.far _) (S2.out.far _))
    refine hK.out _ _ (below_setCellsM A _ 0 HH.out GA.out) (fun hF => ?_)
    clear hK K HH
    simp only [Act.put]
    refine wpAnyH_take (i := 9) (oi := { dst := some 10, op := Op.assign (Operand.tmp 20), type := 31, pos := "law.go:182", after := #[{ on := 6, ground := Ground.data }, { on := 8, ground := Ground.chain }, { on := 0, ground := Ground.phase }, { on := 1, ground := Ground.phase }, { on := 2, ground := Ground.phase }, { on := 3, ground := Ground.phase }, { on := 4, ground := Ground.phase }, { on := 5, ground := Ground.phase }, { on := 6, ground := Ground.phase }, { on := 7, ground := Ground.phase }, { on := 8, ground := Ground.phase }], guard := none }) (v := .int .i64 E) rfl (by kernel_rfl) (by kernel_rfl) (by kernel_rfl) (fun _ _ _ h => h) (Or.inl ⟨by rfl, fun w0 hSw => ?_⟩) hF ?_
    · (clear hSw; go_simp)
    simp only [Act.put, List.setIfInBounds_toArray, List.set_cons_zero, List.set_cons_succ]
    refine wpAnyH_done (by kernel_rfl) ?_ _
    refine NoPanic.normal ?_
    exact FQ.out
def lw5o : Array Oper := #[{ dst := some 78, op := Op.load 23 (Operand.tmp 4), type := 23, pos := "law.go:187", after := #[], guard := none },
  { dst := some 79, op := Op.call { callee := Callee.value (Operand.func 8), args := #[Operand.tmp 78], argTypes := #[23] }, type := 3, pos := "law.go:187", after := #[{ on := 0, ground := Ground.data }], guard := none },
  { dst := some 80, op := Op.load 23 (Operand.tmp 4), type := 23, pos := "law.go:187", after := #[], guard := none },
  { dst := some 81, op := Op.call { callee := Callee.value (Operand.func 9), args := #[Operand.tmp 80], argTypes := #[23] }, type := 3, pos := "law.go:187", after := #[{ on := 2, ground := Ground.data }, { on := 1, ground := Ground.chain }], guard := none },
  { dst := some 82, op := Op.binOp BinOp.neq 3 (Operand.tmp 79) (Operand.tmp 81) 3, type := 4, pos := "law.go:187", after := #[{ on := 1, ground := Ground.data }, { on := 3, ground := Ground.data }], guard := none },
  { dst := some 83, op := Op.move (Operand.tmp 82), type := 4, pos := "law.go:187", after := #[{ on := 4, ground := Ground.data }, { on := 3, ground := Ground.chain }], guard := none },
  { dst := some 84, op := Op.build 23 #[(0, Operand.const (Value.int IntKind.i64 8)), (1, Operand.const (Value.int IntKind.i64 1))], type := 23, pos := "law.go:187", after := #[{ on := 5, ground := Ground.guard }], guard := some (5, false) },
  { dst := some 85, op := Op.call { callee := Callee.value (Operand.func 8), args := #[Operand.tmp 84], argTypes := #[23] }, type := 3, pos := "law.go:187", after := #[{ on := 6, ground := Ground.data }, { on := 5, ground := Ground.chain }, { on := 5, ground := Ground.guard }], guard := some (5, false) },
  { dst := some 86, op := Op.build 23 #[(0, Operand.const (Value.int IntKind.i64 8)), (1, Operand.const (Value.int IntKind.i64 1))], type := 23, pos := "law.go:187", after := #[{ on := 5, ground := Ground.guard }], guard := some (5, false) },
  { dst := some 87, op := Op.call { callee := Callee.value (Operand.func 9), args := #[Operand.tmp 86], argTypes := #[23] }, type := 3, pos := "law.go:187", after := #[{ on := 8, ground := Ground.data }, { on := 7, ground := Ground.chain }, { on := 5, ground := Ground.guard }], guard := some (5, false) },
  { dst := some 88, op := Op.binOp BinOp.neq 3 (Operand.tmp 85) (Operand.tmp 87) 3, type := 4, pos := "law.go:187", after := #[{ on := 7, ground := Ground.data }, { on := 9, ground := Ground.data }, { on := 5, ground := Ground.guard }], guard := some (5, false) },
  { dst := some 89, op := Op.pick (Operand.tmp 83) (Operand.const (Value.bool true)) (Operand.tmp 88), type := 4, pos := "law.go:187", after := #[{ on := 5, ground := Ground.data }, { on := 10, ground := Ground.data }], guard := none }]
set_option maxRecDepth 100000 in
set_option maxHeartbeats 16000000 in
theorem lw5 (Q : Exit → Act → World → Prop) (T4 : Nat) (b c z y : Int) (u0 u1 u2 u3 u5 u6 u7 u8 u9 u10 u11 u12 u13 u14 u15 u16 u17 u18 u19 u20 u21 u22 u23 u24 u25 u26 u27 u28 u29 u30 u31 u32 u33 u34 u35 u36 u37 u38 u39 u40 u41 u42 u43 u44 u45 u46 u47 u48 u49 u50 u51 u52 u53 u54 u55 u56 u57 u58 u59 u60 u61 u62 u63 u64 u65 u66 u67 u68 u69 u70 u71 u72 u73 u74 u75 u76 u77 u78 u79 u80 u81 u82 u83 u84 u85 u86 u87 u88 u89 u90 u91 u92 u93 u94 u95 u96 u97 u98 u99 u100 u101 u102 u103 u104 u105 u106 u107 u108 u109 u110 u111 u112 u113 u114 u115 u116 u117 u118 : Value) (W : World)
    (cp0 : W.cell? ⟨T4, 0, none⟩ = some (.int .i64 b)) (cp1 : W.cell? ⟨T4, 1, none⟩ = some (.int .i64 c))
    (C1 : Hid (∀ x, Calls Tryd.prog 8 #[.agg #[.int .i64 b, .int .i64 c]] x fun e w' => e = .returned (.int .i64 z) ∧ Below x.heap.size x w')) (C3 : Hid (∀ x, Calls Tryd.prog 9 #[.agg #[.int .i64 b, .int .i64 c]] x fun e w' => e = .returned (.int .i64 z) ∧ Below x.heap.size x w')) (C7 : Hid (∀ x, Calls Tryd.prog 8 #[.agg #[.int .i64 8, .int .i64 1]] x fun e w' => e = .returned (.int .i64 y) ∧ Below x.heap.size x w')) (C9 : Hid (∀ x, Calls Tryd.prog 9 #[.agg #[.int .i64 8, .int .i64 1]] x fun e w' => e = .returned (.int .i64 y) ∧ Below x.heap.size x w'))
    (HQ : Hid (∀ wz, Below W.heap.size W wz → Q .normal ⟨#[u0, u1, u2, u3, .pointer (some ⟨T4, 0, none⟩), u5, u6, u7, u8, u9, u10, u11, u12, u13, u14, u15, u16, u17, u18, u19, u20, u21, u22, u23, u24, u25, u26, u27, u28, u29, u30, u31, u32, u33, u34, u35, u36, u37, u38, u39, u40, u41, u42, u43, u44, u45, u46, u47, u48, u49, u50, u51, u52, u53, u54, u55, u56, u57, u58, u59, u60, u61, u62, u63, u64, u65, u66, u67, u68, u69, u70, u71, u72, u73, u74, u75, u76, u77, .agg #[.int .i64 b, .int .i64 c], .int .i64 z, .agg #[.int .i64 b, .int .i64 c], .int .i64 z, .bool false, .bool false, .agg #[.int .i64 8, .int .i64 1], .int .i64 y, .agg #[.int .i64 8, .int .i64 1], .int .i64 y, .bool false, .bool false, u90, u91, u92, u93, u94, u95, u96, u97, u98, u99, u100, u101, u102, u103, u104, u105, u106, u107, u108, u109, u110, u111, u112, u113, u114, u115, u116, u117, u118], []⟩ wz)) : (Code.region 5 lw5o true).wp Tryd.prog Q ⟨#[u0, u1, u2, u3, .pointer (some ⟨T4, 0, none⟩), u5, u6, u7, u8, u9, u10, u11, u12, u13, u14, u15, u16, u17, u18, u19, u20, u21, u22, u23, u24, u25, u26, u27, u28, u29, u30, u31, u32, u33, u34, u35, u36, u37, u38, u39, u40, u41, u42, u43, u44, u45, u46, u47, u48, u49, u50, u51, u52, u53, u54, u55, u56, u57, u58, u59, u60, u61, u62, u63, u64, u65, u66, u67, u68, u69, u70, u71, u72, u73, u74, u75, u76, u77, u78, u79, u80, u81, u82, u83, u84, u85, u86, u87, u88, u89, u90, u91, u92, u93, u94, u95, u96, u97, u98, u99, u100, u101, u102, u103, u104, u105, u106, u107, u108, u109, u110, u111, u112, u113, u114, u115, u116, u117, u118], []⟩ W := by
  unfold lw5o
  refine wp_region_noPanic ?_
  refine wp_region_held_drew (S := fun x => Below W.heap.size W x) (by kernel_rfl) (bl_drew W) (fun hH0 => ?_)
  refine wpAnyH_take (i := 0) (oi := { dst := some 78, op := Op.load 23 (Operand.tmp 4), type := 23, pos := "law.go:187", after := #[], guard := none }) (v := .agg #[.int .i64 b, .int .i64 c]) rfl (by kernel_rfl) (by kernel_rfl) (by kernel_rfl) (fun _ _ _ h => h) (Or.inl ⟨by rfl, fun w0 hSw => ?_⟩) hH0 ?_
  · (have hS : Below W.heap.size W w0 := hSw; have a0 := cell_keep cp0 hS; have a1 := cell_keep cp1 hS; clear hS hSw; go_simp)
  simp only [Act.put, List.setIfInBounds_toArray, List.set_cons_zero, List.set_cons_succ]
  refine wpAnyH_take (i := 2) (oi := { dst := some 80, op := Op.load 23 (Operand.tmp 4), type := 23, pos := "law.go:187", after := #[], guard := none }) (v := .agg #[.int .i64 b, .int .i64 c]) rfl (by kernel_rfl) (by kernel_rfl) (by kernel_rfl) (fun _ _ _ h => h) (Or.inl ⟨by rfl, fun w0 hSw => ?_⟩) hH0 ?_
  · (have hS : Below W.heap.size W w0 := hSw; have a0 := cell_keep cp0 hS; have a1 := cell_keep cp1 hS; clear hS hSw; go_simp)
  simp only [Act.put, List.setIfInBounds_toArray, List.set_cons_zero, List.set_cons_succ]
  refine wpAnyH_ready (rs := [1]) (by kernel_rfl) (by simp) ?_
  refine AllReadyH.cons (o := { dst := some 79, op := Op.call { callee := Callee.value (Operand.func 8), args := #[Operand.tmp 78], argTypes := #[23] }, type := 3, pos := "law.go:187", after := #[{ on := 0, ground := Ground.data }], guard := none }) rfl (fun K hK => ?_) AllReadyH.nil
  have HH := hidden hH0
  clear hH0
  go_simp
  refine (C1.out _).mono ?_
  rintro e wn1 ⟨rfl, hb⟩
  have SN := hidden (bl_trans HH.out hb)
  clear HH hb C1
  go_wp2_with fail
  refine hK.out _ _ SN.out (fun hH1 => ?_)
  clear hK K SN
  refine wpAnyH_ready (rs := [3]) (by kernel_rfl) (by simp) ?_
  refine AllReadyH.cons (o := { dst := some 81, op := Op.call { callee := Callee.value (Operand.func 9), args := #[Operand.tmp 80], argTypes := #[23] }, type := 3, pos := "law.go:187", after := #[{ on := 2, ground := Ground.data }, { on := 1, ground := Ground.chain }], guard := none }) rfl (fun K hK => ?_) AllReadyH.nil
  have HH := hidden hH1
  clear hH1
  go_simp
  refine (C3.out _).mono ?_
  rintro e wn2 ⟨rfl, hb⟩
  have SN := hidden (bl_trans HH.out hb)
  clear HH hb C3
  go_wp2_with fail
  refine hK.out _ _ SN.out (fun hH2 => ?_)
  clear hK K SN
  refine wpAnyH_take (i := 4) (oi := { dst := some 82, op := Op.binOp BinOp.neq 3 (Operand.tmp 79) (Operand.tmp 81) 3, type := 4, pos := "law.go:187", after := #[{ on := 1, ground := Ground.data }, { on := 3, ground := Ground.data }], guard := none }) (v := .bool false) rfl (by kernel_rfl) (by kernel_rfl) (by kernel_rfl) (fun _ _ _ h => h) (Or.inl ⟨by rfl, fun w0 hSw => ?_⟩) hH2 ?_
  · (clear hSw; go_simp)
  simp only [Act.put, List.setIfInBounds_toArray, List.set_cons_zero, List.set_cons_succ]
  refine wpAnyH_take (i := 5) (oi := { dst := some 83, op := Op.move (Operand.tmp 82), type := 4, pos := "law.go:187", after := #[{ on := 4, ground := Ground.data }, { on := 3, ground := Ground.chain }], guard := none }) (v := .bool false) rfl (by kernel_rfl) (by kernel_rfl) (by kernel_rfl) (fun _ _ _ h => h) (Or.inl ⟨by rfl, fun w0 hSw => ?_⟩) hH2 ?_
  · (clear hSw; go_simp)
  simp only [Act.put, List.setIfInBounds_toArray, List.set_cons_zero, List.set_cons_succ]
  refine wpAnyH_take (i := 6) (oi := { dst := some 84, op := Op.build 23 #[(0, Operand.const (Value.int IntKind.i64 8)), (1, Operand.const (Value.int IntKind.i64 1))], type := 23, pos := "law.go:187", after := #[{ on := 5, ground := Ground.guard }], guard := some (5, false) }) (v := .agg #[.int .i64 8, .int .i64 1]) rfl (by kernel_rfl) (by kernel_rfl) (by kernel_rfl) (fun _ _ _ h => h) (Or.inl ⟨by rfl, fun w0 hSw => ?_⟩) hH2 ?_
  · (clear hSw; go_simp)
  simp only [Act.put, List.setIfInBounds_toArray, List.set_cons_zero, List.set_cons_succ]
  refine wpAnyH_take (i := 8) (oi := { dst := some 86, op := Op.build 23 #[(0, Operand.const (Value.int IntKind.i64 8)), (1, Operand.const (Value.int IntKind.i64 1))], type := 23, pos := "law.go:187", after := #[{ on := 5, ground := Ground.guard }], guard := some (5, false) }) (v := .agg #[.int .i64 8, .int .i64 1]) rfl (by kernel_rfl) (by kernel_rfl) (by kernel_rfl) (fun _ _ _ h => h) (Or.inl ⟨by rfl, fun w0 hSw => ?_⟩) hH2 ?_
  · (clear hSw; go_simp)
  simp only [Act.put, List.setIfInBounds_toArray, List.set_cons_zero, List.set_cons_succ]
  refine wpAnyH_ready (rs := [7]) (by kernel_rfl) (by simp) ?_
  refine AllReadyH.cons (o := { dst := some 85, op := Op.call { callee := Callee.value (Operand.func 8), args := #[Operand.tmp 84], argTypes := #[23] }, type := 3, pos := "law.go:187", after := #[{ on := 6, ground := Ground.data }, { on := 5, ground := Ground.chain }, { on := 5, ground := Ground.guard }], guard := some (5, false) }) rfl (fun K hK => ?_) AllReadyH.nil
  have HH := hidden hH2
  clear hH2
  go_simp
  refine (C7.out _).mono ?_
  rintro e wn3 ⟨rfl, hb⟩
  have SN := hidden (bl_trans HH.out hb)
  clear HH hb C7
  go_wp2_with fail
  refine hK.out _ _ SN.out (fun hH3 => ?_)
  clear hK K SN
  refine wpAnyH_ready (rs := [9]) (by kernel_rfl) (by simp) ?_
  refine AllReadyH.cons (o := { dst := some 87, op := Op.call { callee := Callee.value (Operand.func 9), args := #[Operand.tmp 86], argTypes := #[23] }, type := 3, pos := "law.go:187", after := #[{ on := 8, ground := Ground.data }, { on := 7, ground := Ground.chain }, { on := 5, ground := Ground.guard }], guard := some (5, false) }) rfl (fun K hK => ?_) AllReadyH.nil
  have HH := hidden hH3
  clear hH3
  go_simp
  refine (C9.out _).mono ?_
  rintro e wn4 ⟨rfl, hb⟩
  have SN := hidden (bl_trans HH.out hb)
  clear HH hb C9
  go_wp2_with fail
  refine hK.out _ _ SN.out (fun hH4 => ?_)
  clear hK K SN
  refine wpAnyH_take (i := 10) (oi := { dst := some 88, op := Op.binOp BinOp.neq 3 (Operand.tmp 85) (Operand.tmp 87) 3, type := 4, pos := "law.go:187", after := #[{ on := 7, ground := Ground.data }, { on := 9, ground := Ground.data }, { on := 5, ground := Ground.guard }], guard := some (5, false) }) (v := .bool false) rfl (by kernel_rfl) (by kernel_rfl) (by kernel_rfl) (fun _ _ _ h => h) (Or.inl ⟨by rfl, fun w0 hSw => ?_⟩) hH4 ?_
  · (clear hSw; go_simp)
  simp only [Act.put, List.setIfInBounds_toArray, List.set_cons_zero, List.set_cons_succ]
  refine wpAnyH_take (i := 11) (oi := { dst := some 89, op := Op.pick (Operand.tmp 83) (Operand.const (Value.bool true)) (Operand.tmp 88), type := 4, pos := "law.go:187", after := #[{ on := 5, ground := Ground.data }, { on := 10, ground := Ground.data }], guard := none }) (v := .bool false) rfl (by kernel_rfl) (by kernel_rfl) (by kernel_rfl) (fun _ _ _ h => h) (Or.inl ⟨by rfl, fun w0 hSw => ?_⟩) hH4 ?_
  · (clear hSw; go_simp)
  simp only [Act.put, List.setIfInBounds_toArray, List.set_cons_zero, List.set_cons_succ]
  have HH := hidden hH4
  have FQ := hidden (HQ.out _ HH.out)
  refine wpAnyH_done (by kernel_rfl) ?_ _
  refine NoPanic.normal ?_
  exact FQ.out
def lw10o : Array Oper := #[{ dst := some 107, op := Op.move (Operand.tmp 10), type := 31, pos := "law.go:194", after := #[], guard := none },
  { dst := some 108, op := Op.binOp BinOp.eql 31 (Operand.tmp 107) (Operand.const (Value.int IntKind.i64 0)) 31, type := 4, pos := "law.go:194", after := #[{ on := 0, ground := Ground.data }], guard := none },
  { dst := some 109, op := Op.move (Operand.tmp 108), type := 4, pos := "law.go:194", after := #[{ on := 1, ground := Ground.data }], guard := none },
  { dst := some 110, op := Op.load 27 (Operand.tmp 13), type := 27, pos := "law.go:194", after := #[{ on := 2, ground := Ground.guard }], guard := some (2, true) },
  { dst := some 111, op := Op.load 23 (Operand.tmp 4), type := 23, pos := "law.go:194", after := #[{ on := 2, ground := Ground.guard }], guard := some (2, true) },
  { dst := some 112, op := Op.load 27 (Operand.tmp 6), type := 27, pos := "law.go:194", after := #[{ on := 2, ground := Ground.guard }], guard := some (2, true) },
  { dst := some 113, op := Op.call { callee := Callee.value (Operand.func 13), args := #[Operand.tmp 112], argTypes := #[27] }, type := 34, pos := "law.go:194", after := #[{ on := 5, ground := Ground.data }, { on := 2, ground := Ground.chain }, { on := 2, ground := Ground.guard }], guard := some (2, true) },
  { dst := some 114, op := Op.load 27 (Operand.tmp 7), type := 27, pos := "law.go:194", after := #[{ on := 2, ground := Ground.guard }], guard := some (2, true) },
  { dst := some 115, op := Op.call { callee := Callee.value (Operand.func 13), args := #[Operand.tmp 114], argTypes := #[27] }, type := 34, pos := "law.go:194", after := #[{ on := 7, ground := Ground.data }, { on := 6, ground := Ground.chain }, { on := 2, ground := Ground.guard }], guard := some (2, true) },
  { dst := some 116, op := Op.call { callee := Callee.value (Operand.func 12), args := #[Operand.tmp 111, Operand.tmp 113, Operand.tmp 115], argTypes := #[23, 34, 34] }, type := 34, pos := "law.go:194", after := #[{ on := 4, ground := Ground.data }, { on := 6, ground := Ground.data }, { on := 8, ground := Ground.data }, { on := 8, ground := Ground.chain }, { on := 2, ground := Ground.guard }], guard := some (2, true) },
  { dst := some 117, op := Op.call { callee := Callee.value (Operand.func 6), args := #[Operand.tmp 110, Operand.tmp 116], argTypes := #[27, 34] }, type := 4, pos := "law.go:194", after := #[{ on := 3, ground := Ground.data }, { on := 9, ground := Ground.data }, { on := 9, ground := Ground.chain }, { on := 2, ground := Ground.guard }], guard := some (2, true) },
  { dst := some 118, op := Op.pick (Operand.tmp 109) (Operand.tmp 117) (Operand.const (Value.bool false)), type := 4, pos := "law.go:194", after := #[{ on := 2, ground := Ground.data }, { on := 10, ground := Ground.data }], guard := none },
  { dst := some 8, op := Op.assign (Operand.tmp 118), type := 4, pos := "law.go:194", after := #[{ on := 11, ground := Ground.data }, { on := 10, ground := Ground.chain }, { on := 0, ground := Ground.phase }, { on := 1, ground := Ground.phase }, { on := 2, ground := Ground.phase }, { on := 3, ground := Ground.phase }, { on := 4, ground := Ground.phase }, { on := 5, ground := Ground.phase }, { on := 6, ground := Ground.phase }, { on := 7, ground := Ground.phase }, { on := 8, ground := Ground.phase }, { on := 9, ground := Ground.phase }, { on := 10, ground := Ground.phase }, { on := 11, ground := Ground.phase }], guard := none }]
set_option maxRecDepth 100000 in
set_option maxHeartbeats 16000000 in
theorem lw10 (Q : Exit → Act → World → Prop) (T4 T6 T7 T13 : Nat) (b c : Int) (y z d ny nz : E4) (u0 u1 u2 u3 u5 u8 u9 u11 u12 u14 u15 u16 u17 u18 u19 u20 u21 u22 u23 u24 u25 u26 u27 u28 u29 u30 u31 u32 u33 u34 u35 u36 u37 u38 u39 u40 u41 u42 u43 u44 u45 u46 u47 u48 u49 u50 u51 u52 u53 u54 u55 u56 u57 u58 u59 u60 u61 u62 u63 u64 u65 u66 u67 u68 u69 u70 u71 u72 u73 u74 u75 u76 u77 u78 u79 u80 u81 u82 u83 u84 u85 u86 u87 u88 u89 u90 u91 u92 u93 u94 u95 u96 u97 u98 u99 u100 u101 u102 u103 u104 u105 u106 u107 u108 u109 u110 u111 u112 u113 u114 u115 u116 u117 u118 : Value) (W : World)
    (cp0 : W.cell? ⟨T4, 0, none⟩ = some (.int .i64 b)) (cp1 : W.cell? ⟨T4, 1, none⟩ = some (.int .i64 c)) (cy0 : W.cell? ⟨T6, 0, none⟩ = some (.int .u64 y.x0)) (cy1 : W.cell? ⟨T6, 1, none⟩ = some (.int .u64 y.x1)) (cy2 : W.cell? ⟨T6, 2, none⟩ = some (.int .u64 y.x2)) (cy3 : W.cell? ⟨T6, 3, none⟩ = some (.int .u64 y.x3)) (cz0 : W.cell? ⟨T7, 0, none⟩ = some (.int .u64 z.x0)) (cz1 : W.cell? ⟨T7, 1, none⟩ = some (.int .u64 z.x1)) (cz2 : W.cell? ⟨T7, 2, none⟩ = some (.int .u64 z.x2)) (cz3 : W.cell? ⟨T7, 3, none⟩ = some (.int .u64 z.x3)) (cd0 : W.cell? ⟨T13, 0, none⟩ = some (.int .u64 d.x0)) (cd1 : W.cell? ⟨T13, 1, none⟩ = some (.int .u64 d.x1)) (cd2 : W.cell? ⟨T13, 2, none⟩ = some (.int .u64 d.x2)) (cd3 : W.cell? ⟨T13, 3, none⟩ = some (.int .u64 d.x3))
    (C6 : Hid (∀ x, Calls Tryd.prog 13 #[.agg #[.int .u64 y.x0, .int .u64 y.x1, .int .u64 y.x2, .int .u64 y.x3]] x fun e w' => e = .returned (.agg #[.int .u64 ny.x0, .int .u64 ny.x1, .int .u64 ny.x2, .int .u64 ny.x3]) ∧ Below x.heap.size x w')) (C8 : Hid (∀ x, Calls Tryd.prog 13 #[.agg #[.int .u64 z.x0, .int .u64 z.x1, .int .u64 z.x2, .int .u64 z.x3]] x fun e w' => e = .returned (.agg #[.int .u64 nz.x0, .int .u64 nz.x1, .int .u64 nz.x2, .int .u64 nz.x3]) ∧ Below x.heap.size x w')) (C9 : Hid (∀ x, Calls Tryd.prog 12 #[.agg #[.int .i64 b, .int .i64 c], .agg #[.int .u64 ny.x0, .int .u64 ny.x1, .int .u64 ny.x2, .int .u64 ny.x3], .agg #[.int .u64 nz.x0, .int .u64 nz.x1, .int .u64 nz.x2, .int .u64 nz.x3]] x fun e w' => e = .returned (.agg #[.int .u64 d.x0, .int .u64 d.x1, .int .u64 d.x2, .int .u64 d.x3]) ∧ Below x.heap.size x w')) (C10 : Hid (∀ x, Calls Tryd.prog 6 #[.agg #[.int .u64 d.x0, .int .u64 d.x1, .int .u64 d.x2, .int .u64 d.x3], .agg #[.int .u64 d.x0, .int .u64 d.x1, .int .u64 d.x2, .int .u64 d.x3]] x fun e w' => e = .returned (.bool true) ∧ Below x.heap.size x w'))
    (HQ : Hid (∀ wz, Below W.heap.size W wz → Q .normal ⟨#[u0, u1, u2, u3, .pointer (some ⟨T4, 0, none⟩), u5, .pointer (some ⟨T6, 0, none⟩), .pointer (some ⟨T7, 0, none⟩), .bool true, u9, .int .i64 0, u11, u12, .pointer (some ⟨T13, 0, none⟩), u14, u15, u16, u17, u18, u19, u20, u21, u22, u23, u24, u25, u26, u27, u28, u29, u30, u31, u32, u33, u34, u35, u36, u37, u38, u39, u40, u41, u42, u43, u44, u45, u46, u47, u48, u49, u50, u51, u52, u53, u54, u55, u56, u57, u58, u59, u60, u61, u62, u63, u64, u65, u66, u67, u68, u69, u70, u71, u72, u73, u74, u75, u76, u77, u78, u79, u80, u81, u82, u83, u84, u85, u86, u87, u88, u89, u90, u91, u92, u93, u94, u95, u96, u97, u98, u99, u100, u101, u102, u103, u104, u105, u106, .int .i64 0, .bool true, .bool true, .agg #[.int .u64 d.x0, .int .u64 d.x1, .int .u64 d.x2, .int .u64 d.x3], .agg #[.int .i64 b, .int .i64 c], .agg #[.int .u64 y.x0, .int .u64 y.x1, .int .u64 y.x2, .int .u64 y.x3], .agg #[.int .u64 ny.x0, .int .u64 ny.x1, .int .u64 ny.x2, .int .u64 ny.x3], .agg #[.int .u64 z.x0, .int .u64 z.x1, .int .u64 z.x2, .int .u64 z.x3], .agg #[.int .u64 nz.x0, .int .u64 nz.x1, .int .u64 nz.x2, .int .u64 nz.x3], .agg #[.int .u64 d.x0, .int .u64 d.x1, .int .u64 d.x2, .int .u64 d.x3], .bool true, .bool true], []⟩ wz)) : (Code.region 10 lw10o true).wp Tryd.prog Q ⟨#[u0, u1, u2, u3, .pointer (some ⟨T4, 0, none⟩), u5, .pointer (some ⟨T6, 0, none⟩), .pointer (some ⟨T7, 0, none⟩), u8, u9, .int .i64 0, u11, u12, .pointer (some ⟨T13, 0, none⟩), u14, u15, u16, u17, u18, u19, u20, u21, u22, u23, u24, u25, u26, u27, u28, u29, u30, u31, u32, u33, u34, u35, u36, u37, u38, u39, u40, u41, u42, u43, u44, u45, u46, u47, u48, u49, u50, u51, u52, u53, u54, u55, u56, u57, u58, u59, u60, u61, u62, u63, u64, u65, u66, u67, u68, u69, u70, u71, u72, u73, u74, u75, u76, u77, u78, u79, u80, u81, u82, u83, u84, u85, u86, u87, u88, u89, u90, u91, u92, u93, u94, u95, u96, u97, u98, u99, u100, u101, u102, u103, u104, u105, u106, u107, u108, u109, u110, u111, u112, u113, u114, u115, u116, u117, u118], []⟩ W := by
  unfold lw10o
  refine wp_region_noPanic ?_
  refine wp_region_held_drew (S := fun x => Below W.heap.size W x) (by kernel_rfl) (bl_drew W) (fun hH0 => ?_)
  refine wpAnyH_take (i := 0) (oi := { dst := some 107, op := Op.move (Operand.tmp 10), type := 31, pos := "law.go:194", after := #[], guard := none }) (v := .int .i64 0) rfl (by kernel_rfl) (by kernel_rfl) (by kernel_rfl) (fun _ _ _ h => h) (Or.inl ⟨by rfl, fun w0 hSw => ?_⟩) hH0 ?_
  · (clear hSw; go_simp)
  simp only [Act.put, List.setIfInBounds_toArray, List.set_cons_zero, List.set_cons_succ]
  refine wpAnyH_take (i := 1) (oi := { dst := some 108, op := Op.binOp BinOp.eql 31 (Operand.tmp 107) (Operand.const (Value.int IntKind.i64 0)) 31, type := 4, pos := "law.go:194", after := #[{ on := 0, ground := Ground.data }], guard := none }) (v := .bool true) rfl (by kernel_rfl) (by kernel_rfl) (by kernel_rfl) (fun _ _ _ h => h) (Or.inl ⟨by rfl, fun w0 hSw => ?_⟩) hH0 ?_
  · (clear hSw; go_simp)
  simp only [Act.put, List.setIfInBounds_toArray, List.set_cons_zero, List.set_cons_succ]
  refine wpAnyH_take (i := 2) (oi := { dst := some 109, op := Op.move (Operand.tmp 108), type := 4, pos := "law.go:194", after := #[{ on := 1, ground := Ground.data }], guard := none }) (v := .bool true) rfl (by kernel_rfl) (by kernel_rfl) (by kernel_rfl) (fun _ _ _ h => h) (Or.inl ⟨by rfl, fun w0 hSw => ?_⟩) hH0 ?_
  · (clear hSw; go_simp)
  simp only [Act.put, List.setIfInBounds_toArray, List.set_cons_zero, List.set_cons_succ]
  refine wpAnyH_take (i := 3) (oi := { dst := some 110, op := Op.load 27 (Operand.tmp 13), type := 27, pos := "law.go:194", after := #[{ on := 2, ground := Ground.guard }], guard := some (2, true) }) (v := .agg #[.int .u64 d.x0, .int .u64 d.x1, .int .u64 d.x2, .int .u64 d.x3]) rfl (by kernel_rfl) (by kernel_rfl) (by kernel_rfl) (fun _ _ _ h => h) (Or.inl ⟨by rfl, fun w0 hSw => ?_⟩) hH0 ?_
  · (have hS : Below W.heap.size W w0 := hSw; have a0 := cell_keep cd0 hS; have a1 := cell_keep cd1 hS; have a2 := cell_keep cd2 hS; have a3 := cell_keep cd3 hS; clear hS hSw; go_simp)
  simp only [Act.put, List.setIfInBounds_toArray, List.set_cons_zero, List.set_cons_succ]
  refine wpAnyH_take (i := 4) (oi := { dst := some 111, op := Op.load 23 (Operand.tmp 4), type := 23, pos := "law.go:194", after := #[{ on := 2, ground := Ground.guard }], guard := some (2, true) }) (v := .agg #[.int .i64 b, .int .i64 c]) rfl (by kernel_rfl) (by kernel_rfl) (by kernel_rfl) (fun _ _ _ h => h) (Or.inl ⟨by rfl, fun w0 hSw => ?_⟩) hH0 ?_
  · (have hS : Below W.heap.size W w0 := hSw; have a0 := cell_keep cp0 hS; have a1 := cell_keep cp1 hS; clear hS hSw; go_simp)
  simp only [Act.put, List.setIfInBounds_toArray, List.set_cons_zero, List.set_cons_succ]
  refine wpAnyH_take (i := 5) (oi := { dst := some 112, op := Op.load 27 (Operand.tmp 6), type := 27, pos := "law.go:194", after := #[{ on := 2, ground := Ground.guard }], guard := some (2, true) }) (v := .agg #[.int .u64 y.x0, .int .u64 y.x1, .int .u64 y.x2, .int .u64 y.x3]) rfl (by kernel_rfl) (by kernel_rfl) (by kernel_rfl) (fun _ _ _ h => h) (Or.inl ⟨by rfl, fun w0 hSw => ?_⟩) hH0 ?_
  · (have hS : Below W.heap.size W w0 := hSw; have a0 := cell_keep cy0 hS; have a1 := cell_keep cy1 hS; have a2 := cell_keep cy2 hS; have a3 := cell_keep cy3 hS; clear hS hSw; go_simp)
  simp only [Act.put, List.setIfInBounds_toArray, List.set_cons_zero, List.set_cons_succ]
  refine wpAnyH_take (i := 7) (oi := { dst := some 114, op := Op.load 27 (Operand.tmp 7), type := 27, pos := "law.go:194", after := #[{ on := 2, ground := Ground.guard }], guard := some (2, true) }) (v := .agg #[.int .u64 z.x0, .int .u64 z.x1, .int .u64 z.x2, .int .u64 z.x3]) rfl (by kernel_rfl) (by kernel_rfl) (by kernel_rfl) (fun _ _ _ h => h) (Or.inl ⟨by rfl, fun w0 hSw => ?_⟩) hH0 ?_
  · (have hS : Below W.heap.size W w0 := hSw; have a0 := cell_keep cz0 hS; have a1 := cell_keep cz1 hS; have a2 := cell_keep cz2 hS; have a3 := cell_keep cz3 hS; clear hS hSw; go_simp)
  simp only [Act.put, List.setIfInBounds_toArray, List.set_cons_zero, List.set_cons_succ]
  refine wpAnyH_ready (rs := [6]) (by kernel_rfl) (by simp) ?_
  refine AllReadyH.cons (o := { dst := some 113, op := Op.call { callee := Callee.value (Operand.func 13), args := #[Operand.tmp 112], argTypes := #[27] }, type := 34, pos := "law.go:194", after := #[{ on := 5, ground := Ground.data }, { on := 2, ground := Ground.chain }, { on := 2, ground := Ground.guard }], guard := some (2, true) }) rfl (fun K hK => ?_) AllReadyH.nil
  have HH := hidden hH0
  clear hH0
  go_simp
  refine (C6.out _).mono ?_
  rintro e wn1 ⟨rfl, hb⟩
  have SN := hidden (bl_trans HH.out hb)
  clear HH hb C6
  go_wp2_with fail
  refine hK.out _ _ SN.out (fun hH1 => ?_)
  clear hK K SN
  refine wpAnyH_ready (rs := [8]) (by kernel_rfl) (by simp) ?_
  refine AllReadyH.cons (o := { dst := some 115, op := Op.call { callee := Callee.value (Operand.func 13), args := #[Operand.tmp 114], argTypes := #[27] }, type := 34, pos := "law.go:194", after := #[{ on := 7, ground := Ground.data }, { on := 6, ground := Ground.chain }, { on := 2, ground := Ground.guard }], guard := some (2, true) }) rfl (fun K hK => ?_) AllReadyH.nil
  have HH := hidden hH1
  clear hH1
  go_simp
  refine (C8.out _).mono ?_
  rintro e wn2 ⟨rfl, hb⟩
  have SN := hidden (bl_trans HH.out hb)
  clear HH hb C8
  go_wp2_with fail
  refine hK.out _ _ SN.out (fun hH2 => ?_)
  clear hK K SN
  refine wpAnyH_ready (rs := [9]) (by kernel_rfl) (by simp) ?_
  refine AllReadyH.cons (o := { dst := some 116, op := Op.call { callee := Callee.value (Operand.func 12), args := #[Operand.tmp 111, Operand.tmp 113, Operand.tmp 115], argTypes := #[23, 34, 34] }, type := 34, pos := "law.go:194", after := #[{ on := 4, ground := Ground.data }, { on := 6, ground := Ground.data }, { on := 8, ground := Ground.data }, { on := 8, ground := Ground.chain }, { on := 2, ground := Ground.guard }], guard := some (2, true) }) rfl (fun K hK => ?_) AllReadyH.nil
  have HH := hidden hH2
  clear hH2
  go_simp
  refine (C9.out _).mono ?_
  rintro e wn3 ⟨rfl, hb⟩
  have SN := hidden (bl_trans HH.out hb)
  clear HH hb C9
  go_wp2_with fail
  refine hK.out _ _ SN.out (fun hH3 => ?_)
  clear hK K SN
  refine wpAnyH_ready (rs := [10]) (by kernel_rfl) (by simp) ?_
  refine AllReadyH.cons (o := { dst := some 117, op := Op.call { callee := Callee.value (Operand.func 6), args := #[Operand.tmp 110, Operand.tmp 116], argTypes := #[27, 34] }, type := 4, pos := "law.go:194", after := #[{ on := 3, ground := Ground.data }, { on := 9, ground := Ground.data }, { on := 9, ground := Ground.chain }, { on := 2, ground := Ground.guard }], guard := some (2, true) }) rfl (fun K hK => ?_) AllReadyH.nil
  have HH := hidden hH3
  clear hH3
  go_simp
  refine (C10.out _).mono ?_
  rintro e wn4 ⟨rfl, hb⟩
  have SN := hidden (bl_trans HH.out hb)
  clear HH hb C10
  go_wp2_with fail
  refine hK.out _ _ SN.out (fun hH4 => ?_)
  clear hK K SN
  refine wpAnyH_take (i := 11) (oi := { dst := some 118, op := Op.pick (Operand.tmp 109) (Operand.tmp 117) (Operand.const (Value.bool false)), type := 4, pos := "law.go:194", after := #[{ on := 2, ground := Ground.data }, { on := 10, ground := Ground.data }], guard := none }) (v := .bool true) rfl (by kernel_rfl) (by kernel_rfl) (by kernel_rfl) (fun _ _ _ h => h) (Or.inl ⟨by rfl, fun w0 hSw => ?_⟩) hH4 ?_
  · (clear hSw; go_simp)
  simp only [Act.put, List.setIfInBounds_toArray, List.set_cons_zero, List.set_cons_succ]
  have HH := hidden hH4
  have FQ := hidden (HQ.out _ HH.out)
  refine wpAnyH_take (i := 12) (oi := { dst := some 8, op := Op.assign (Operand.tmp 118), type := 4, pos := "law.go:194", after := #[{ on := 11, ground := Ground.data }, { on := 10, ground := Ground.chain }, { on := 0, ground := Ground.phase }, { on := 1, ground := Ground.phase }, { on := 2, ground := Ground.phase }, { on := 3, ground := Ground.phase }, { on := 4, ground := Ground.phase }, { on := 5, ground := Ground.phase }, { on := 6, ground := Ground.phase }, { on := 7, ground := Ground.phase }, { on := 8, ground := Ground.phase }, { on := 9, ground := Ground.phase }, { on := 10, ground := Ground.phase }, { on := 11, ground := Ground.phase }], guard := none }) (v := .bool true) rfl (by kernel_rfl) (by kernel_rfl) (by kernel_rfl) (fun _ _ _ h => h) (Or.inl ⟨by rfl, fun w0 hSw => ?_⟩) hH4 ?_
  · (clear hSw; go_simp)
  simp only [Act.put, List.setIfInBounds_toArray, List.set_cons_zero, List.set_cons_succ]
  refine wpAnyH_done (by kernel_rfl) ?_ _
  refine NoPanic.normal ?_
  exact FQ.out
end Go.Proofs.YtpblcnefihhhoaaDoor
namespace Go.Proofs.YtpblcnefihhhoaaDoor
open Go.RowKit
set_option linter.unusedVariables false
theorem eq4z (w : World) : (Op.equalIn 10000 27 (.agg #[.int .u64 0, .int .u64 0, .int .u64 0, .int .u64 0]) (.agg #[.int .u64 0, .int .u64 0, .int .u64 0, .int .u64 0])).run Tryd.prog w = .ok true w := (eq4 zero4 zero4 w).trans (by rw [E4.same_self])
set_option maxRecDepth 100000 in
set_option maxHeartbeats 32000000 in
theorem tape_any (b c : Int) (P : Option Addr) (L cap : Nat) (f : Nat → Int) (y z : E4) (w : World) (hT : Tb w) (hL : L ≤ 140737488351232) (hcap : L ≤ cap) (hN : P = none → L = 0 ∧ cap = 0) (hf : ∀ j, j < L → 0 ≤ f j ∧ f j ≤ 255) (hS : Stm w P L f) (hy : y.ok) (hz : z.ok) :
    Calls Tryd.prog 3 #[.agg #[.int .i64 b, .int .i64 c], .slice P L cap, y.v, z.v] w fun e w' => e = .returned (.bool true) ∧ Below w.heap.size w w' := by
  obtain ⟨a, r, q, t, E, N, g1, g2, hN1, RT, RR⟩ := tapes_both b c P L cap f hL hcap hf
  obtain ⟨z1, B1, B2⟩ := bounds_both b c
  obtain ⟨y1, B3, B4⟩ := bounds_both 8 1
  have HB := hidden (⟨B1, B2, B3, B4⟩ : _ ∧ _ ∧ _ ∧ _)
  have HRT := hidden RT; have HRR := hidden RR; have HT := hidden hT; have HS := hidden hS; have HL := hidden hL; have HNN := hidden hN; have HN1 := hidden hN1; have HY := hidden hy; have HZ := hidden hz
  have CA := hidden (fun x => vis_any a x); have CR := hidden (fun x => vis_any r x); have CQ := hidden (fun x => vis_any q x); have CT := hidden (fun x => vis_any t x)
  have M0 := (Mw.start w).new [.int .i64 b, .int .i64 c] 23
  have M1 := M0.new [.int .u64 y.x0, .int .u64 y.x1, .int .u64 y.x2, .int .u64 y.x3] 27
  rw [World.size_alloc] at M1
  have M2 := M1.new [.int .u64 z.x0, .int .u64 z.x1, .int .u64 z.x2, .int .u64 z.x3] 27
  simp only [World.size_alloc] at M2
  have MM := hidden M2
  clear M0 M1 M2 RT RR hT hS hL hcap hN hf hN1 B1 B2 B3 B4 hy hz
  simp only [E4.v] at CA CR CQ CT ⊢
  go_enter Tryd.func3, Tryd.ntmps3
  go_upto_region 1 with fail
  generalize ((w.alloc (.cells #[.int .i64 b, .int .i64 c] 23)).alloc (.cells #[.int .u64 y.x0, .int .u64 y.x1, .int .u64 y.x2, .int .u64 y.x3] 27)).alloc (.cells #[.int .u64 z.x0, .int .u64 z.x1, .int .u64 z.x2, .int .u64 z.x3] 27) = w0 at *
  have r_cp := (MM.out.r (w.heap.size, [.int .i64 b, .int .i64 c]) (by simp)).1
  have cp0 := r_cp 0 _ rfl
  have cp1 := r_cp 1 _ rfl
  simp only [Nat.zero_add] at cp0 cp1
  clear r_cp
  refine lw1 _ P L cap w.heap.size N b c E f g1 g2 a r q t _ _ _ _ _ _ _ _ _ _ _ _ _ _ _ _ _ _ _ _ _ _ _ _ _ _ _ _ _ _ _ _ _ _ _ _ _ _ _ _ _ _ _ _ _ _ _ _ _ _ _ _ _ _ _ _ _ _ _ _ _ _ _ _ _ _ _ _ _ _ _ _ _ _ _ _ _ _ _ _ _ _ _ _ _ _ _ _ _ _ _ _ _ _ _ _ _ _ _ _ _ _ _ _ _ _ _ _ _ _ _ _ _ _ _ _ _ w0 cp0 cp1 HNN.out (HS.out.keep MM.out.bel) HL.out (hidden (fun x v bs hx ho => HRT.out x v bs (HT.out.keep (bl_trans MM.out.bel hx)) ho)) (hidden ?_)
  intro v1 A VL VR wz hA hb hr ht sl1 sl2
  have M1 := hidden ((MM.out.keep hb).add (c := A) (cs := tc a r q t VL VR) hr ht (Nat.le_trans MM.out.bel.size hA) (blk_lt hr rfl))
  have L1 := hidden sl1; have L2 := hidden sl2
  have GA : Hid (w.heap.size + 1 + 1 < A) := hidden (by have := (MM.out.r (w.heap.size + 1 + 1, [.int .u64 z.x0, .int .u64 z.x1, .int .u64 z.x2, .int .u64 z.x3]) (by simp)).2.2.2; omega)
  clear cp0 cp1 MM hA hb hr ht sl1 sl2
  have r_cp := (M1.out.r (w.heap.size, [.int .i64 b, .int .i64 c]) (by simp)).1
  have cp0 := r_cp 0 _ rfl
  have cp1 := r_cp 1 _ rfl
  simp only [Nat.zero_add] at cp0 cp1
  clear r_cp
  go_upto_region 3 with (first | (go_at_call 5; refine (HRR.out _ (HS.out.keep M1.out.bel)).mono ?_; rintro e wr ⟨WL, WR, rfl, k1, k2, hb⟩; have M2 := hidden (M1.out.keep hb); replace L1 := hidden (L1.out.keep hb); replace L2 := hidden (L2.out.keep hb); have K1 := hidden k1; have K2 := hidden k2; clear hb k1 k2 M1 cp0 cp1) | (refine wpList_rtalloc rfl rfl ?_; have M3 := hidden (M2.out.new tz 37); have hb := bl_alloc wr (.cells tz.toArray 37); have GT : Hid (A < wr.heap.size) := hidden (M2.out.r (A, tc a r q t VL VR) (by simp)).2.2.2; replace L1 := hidden ((L1.out.imp (q := fun k => k ≠ wr.heap.size) (fun k h _ => Nat.ne_of_lt h)).keep hb); replace L2 := hidden ((L2.out.imp (q := fun k => k ≠ wr.heap.size) (fun k h _ => Nat.ne_of_lt h)).keep hb); replace K1 := hidden ((K1.out.imp (q := fun k => k ≠ wr.heap.size) (fun k h _ => Nat.ne_of_lt h)).keep hb); replace K2 := hidden ((K2.out.imp (q := fun k => k ≠ wr.heap.size) (fun k h _ => Nat.ne_of_lt h)).keep hb); clear hb M2; generalize World.alloc _ _ = w3 at *; generalize wr.heap.size = T11 at *) | (refine wpList_storeL rfl 37 _ _ rfl rfl T11 0 (tc a r q t WL WR) (by rfl) (by rfl) (M3.out.ther (tc a r q t WL WR) (c := T11) (o := tz) (by simp) rfl) rtinfo (tc1 K1.out K2.out) ?_; have M4 := hidden (M3.out.set (M := [(A, tc a r q t VL VR), (w.heap.size + 1 + 1, [.int .u64 z.x0, .int .u64 z.x1, .int .u64 z.x2, .int .u64 z.x3]), (w.heap.size + 1, [.int .u64 y.x0, .int .u64 y.x1, .int .u64 y.x2, .int .u64 y.x3]), (w.heap.size, [.int .i64 b, .int .i64 c])]) (tc a r q t WL WR) (c := T11) (o := tz) (by simp) rfl (by have := GT.out; have := GA.out; simp; omega)); replace L1 := hidden (L1.out.far (tc a r q t WL WR)); replace L2 := hidden (L2.out.far (tc a r q t WL WR)); replace K1 := hidden (K1.out.far (tc a r q t WL WR)); replace K2 := hidden (K2.out.far (tc a r q t WL WR)); clear M3; generalize World.setCells _ T11 0 (tc a r q t WL WR) = w4 at *))
  have CS := hidden (fun x (h1 : Sl x _ N g1 VL) (h2 : Sl x _ N g1 WL) => sameNums_sl VL WL N g1 (fun _ => True) (fun _ => True) x HN1.out h1 h2)
  have CU := hidden (fun x (h1 : Sl x _ N g2 VR) (h2 : Sl x _ N g2 WR) => sameNums_sl VR WR N g2 (fun _ => True) (fun _ => True) x HN1.out h1 h2)
  have r_c := (M4.out.r (A, tc a r q t VL VR) (by simp)).1
  have c0 := r_c 0 _ rfl
  have c1 := r_c 1 _ rfl
  have c2 := r_c 2 _ rfl
  have c3 := r_c 3 _ rfl
  have r_d := (M4.out.r (T11, tc a r q t WL WR) (by simp)).1
  have d0 := r_d 0 _ rfl
  have d1 := r_d 1 _ rfl
  have d2 := r_d 2 _ rfl
  have d3 := r_d 3 _ rfl
  simp only [Nat.zero_add] at c0 c1 c2 c3 d0 d1 d2 d3
  clear r_c r_d
  go_upto_region 5 with (first | (go_at_call 6; refine (CA.out _).mono ?_; rintro e wk0 ⟨rfl, hb⟩; replace M4 := hidden (M4.out.keep hb); replace L1 := hidden (L1.out.keep hb); replace L2 := hidden (L2.out.keep hb); replace K1 := hidden (K1.out.keep hb); replace K2 := hidden (K2.out.keep hb); clear hb CA c0 c1 c2 c3 d0 d1 d2 d3; have r_c := (M4.out.r (A, tc a r q t VL VR) (by simp)).1; have c0 := r_c 4 _ rfl; have c1 := r_c 5 _ rfl; have c2 := r_c 6 _ rfl; have c3 := r_c 7 _ rfl; have r_d := (M4.out.r (T11, tc a r q t WL WR) (by simp)).1; have d0 := r_d 4 _ rfl; have d1 := r_d 5 _ rfl; have d2 := r_d 6 _ rfl; have d3 := r_d 7 _ rfl; simp only [Nat.zero_add] at c0 c1 c2 c3 d0 d1 d2 d3; clear r_c r_d) | (go_at_call 6; refine (CR.out _).mono ?_; rintro e wk1 ⟨rfl, hb⟩; replace M4 := hidden (M4.out.keep hb); replace L1 := hidden (L1.out.keep hb); replace L2 := hidden (L2.out.keep hb); replace K1 := hidden (K1.out.keep hb); replace K2 := hidden (K2.out.keep hb); clear hb CR c0 c1 c2 c3 d0 d1 d2 d3; have r_c := (M4.out.r (A, tc a r q t VL VR) (by simp)).1; have c0 := r_c 8 _ rfl; have c1 := r_c 9 _ rfl; have c2 := r_c 10 _ rfl; have c3 := r_c 11 _ rfl; have r_d := (M4.out.r (T11, tc a r q t WL WR) (by simp)).1; have d0 := r_d 8 _ rfl; have d1 := r_d 9 _ rfl; have d2 := r_d 10 _ rfl; have d3 := r_d 11 _ rfl; simp only [Nat.zero_add] at c0 c1 c2 c3 d0 d1 d2 d3; clear r_c r_d) | (go_at_call 6; refine (CQ.out _).mono ?_; rintro e wk2 ⟨rfl, hb⟩; replace M4 := hidden (M4.out.keep hb); replace L1 := hidden (L1.out.keep hb); replace L2 := hidden (L2.out.keep hb); replace K1 := hidden (K1.out.keep hb); replace K2 := hidden (K2.out.keep hb); clear hb CQ c0 c1 c2 c3 d0 d1 d2 d3; have r_c := (M4.out.r (A, tc a r q t VL VR) (by simp)).1; have c0 := r_c 12 _ rfl; have c1 := r_c 13 _ rfl; have c2 := r_c 14 _ rfl; have c3 := r_c 15 _ rfl; have r_d := (M4.out.r (T11, tc a r q t WL WR) (by simp)).1; have d0 := r_d 12 _ rfl; have d1 := r_d 13 _ rfl; have d2 := r_d 14 _ rfl; have d3 := r_d 15 _ rfl; simp only [Nat.zero_add] at c0 c1 c2 c3 d0 d1 d2 d3; clear r_c r_d) | (go_at_call 6; refine (CT.out _).mono ?_; rintro e wk3 ⟨rfl, hb⟩; replace M4 := hidden (M4.out.keep hb); replace L1 := hidden (L1.out.keep hb); replace L2 := hidden (L2.out.keep hb); replace K1 := hidden (K1.out.keep hb); replace K2 := hidden (K2.out.keep hb); clear hb CT c0 c1 c2 c3 d0 d1 d2 d3; have r_c := (M4.out.r (A, tc a r q t VL VR) (by simp)).1; have c0 := r_c 16 _ rfl; have r_d := (M4.out.r (T11, tc a r q t WL WR) (by simp)).1; have d0 := r_d 16 _ rfl; simp only [Nat.zero_add] at c0 d0; clear r_c r_d) | (go_at_call 7; refine (CS.out _ L1.out K1.out).mono ?_; rintro e wk4 ⟨rfl, hb⟩; replace M4 := hidden (M4.out.keep hb); replace L2 := hidden (L2.out.keep hb); replace K2 := hidden (K2.out.keep hb); clear hb CS L1 K1 c0 d0; have r_c := (M4.out.r (A, tc a r q t VL VR) (by simp)).1; have c0 := r_c 17 _ rfl; have r_d := (M4.out.r (T11, tc a r q t WL WR) (by simp)).1; have d0 := r_d 17 _ rfl; simp only [Nat.zero_add] at c0 d0; clear r_c r_d) | (go_at_call 7; refine (CU.out _ L2.out K2.out).mono ?_; rintro e wk5 ⟨rfl, hb⟩; replace M4 := hidden (M4.out.keep hb); clear hb CU L2 K2 c0 d0))
  have r_cp := (M4.out.r (w.heap.size, [.int .i64 b, .int .i64 c]) (by simp)).1
  have cp0 := r_cp 0 _ rfl
  have cp1 := r_cp 1 _ rfl
  simp only [Nat.zero_add] at cp0 cp1
  clear r_cp
  refine lw5 _ w.heap.size b c z1 y1 _ _ _ _ _ _ _ _ _ _ _ _ _ _ _ _ _ _ _ _ _ _ _ _ _ _ _ _ _ _ _ _ _ _ _ _ _ _ _ _ _ _ _ _ _ _ _ _ _ _ _ _ _ _ _ _ _ _ _ _ _ _ _ _ _ _ _ _ _ _ _ _ _ _ _ _ _ _ _ _ _ _ _ _ _ _ _ _ _ _ _ _ _ _ _ _ _ _ _ _ _ _ _ _ _ _ _ _ _ _ _ _ _ _ _ _ _ _ wk5 cp0 cp1 (hidden HB.out.1) (hidden HB.out.2.1) (hidden HB.out.2.2.1) (hidden HB.out.2.2.2) (hidden ?_)
  intro w6 hb
  have M6 := hidden ((M4.out.keep hb).sub (M := [(w.heap.size + 1 + 1, [.int .u64 z.x0, .int .u64 z.x1, .int .u64 z.x2, .int .u64 z.x3]), (w.heap.size + 1, [.int .u64 y.x0, .int .u64 y.x1, .int .u64 y.x2, .int .u64 y.x3]), (w.heap.size, [.int .i64 b, .int .i64 c])]) (by simp))
  have HT6 := hidden (HT.out.keep M6.out.bel)
  clear cp0 cp1 hb M4 HB HRT HRR HS
  go_upto_region 7 with fail
  have r_cp := (M6.out.r (w.heap.size, [.int .i64 b, .int .i64 c]) (by simp)).1
  have cp0 := r_cp 0 _ rfl
  have cp1 := r_cp 1 _ rfl
  have r_cy := (M6.out.r (w.heap.size + 1, [.int .u64 y.x0, .int .u64 y.x1, .int .u64 y.x2, .int .u64 y.x3]) (by simp)).1
  have cy0 := r_cy 0 _ rfl
  have cy1 := r_cy 1 _ rfl
  have cy2 := r_cy 2 _ rfl
  have cy3 := r_cy 3 _ rfl
  have r_cz := (M6.out.r (w.heap.size + 1 + 1, [.int .u64 z.x0, .int .u64 z.x1, .int .u64 z.x2, .int .u64 z.x3]) (by simp)).1
  have cz0 := r_cz 0 _ rfl
  have cz1 := r_cz 1 _ rfl
  have cz2 := r_cz 2 _ rfl
  have cz3 := r_cz 3 _ rfl
  simp only [Nat.zero_add] at cp0 cp1 cy0 cy1 cy2 cy3 cz0 cz1 cz2 cz3
  clear r_cp r_cy r_cz
  have AL := hidden (fun x => Allowed_any b c x)
  by_cases hal : al b c = true
  · rw [hal] at AL
    obtain ⟨B, C, rfl, rfl, hB0, hB, hC0, hC⟩ := al_in hal
    obtain ⟨n, hn⟩ : ∃ n, B * C = n := ⟨_, rfl⟩
    have DE := hidden (fun x T => Delta_in B C n hn hB0 hB hC0 hC hal y z HY.out HZ.out x T)
    have RD := hidden (fun x => rDelta_any B C n hn hB hC y.n z.n x)
    have NY := hidden (fun x => num_any y HY.out x)
    have NZ := hidden (fun x => num_any z HZ.out x)
    obtain ⟨d, hd⟩ : ∃ d, lst (dw B C n y.n z.n) = d := ⟨_, rfl⟩
    obtain ⟨ny, hny⟩ : ∃ d, lst y.n = d := ⟨_, rfl⟩
    obtain ⟨nz, hnz⟩ : ∃ d, lst z.n = d := ⟨_, rfl⟩
    rw [hd] at DE RD; rw [hny] at RD NY; rw [hnz] at RD NZ
    have VI := hidden (fun x => vis_any d x)
    simp only [E4.v] at DE RD NY NZ VI
    clear hd hny hnz hn hal hB0 hB hC0 hC
    go_upto_region 8 with (first | (go_at_call 10; refine (DE.out _ HT6.out).mono ?_; rintro e w7 ⟨rfl, hb⟩; have M7 := hidden ((M6.out.keep hb).new [.int .u64 d.x0, .int .u64 d.x1, .int .u64 d.x2, .int .u64 d.x3] 27); clear hb M6 DE cp0 cp1 cy0 cy1 cy2 cy3 cz0 cz1 cz2 cz3))
    generalize w7.alloc (.cells #[.int .u64 d.x0, .int .u64 d.x1, .int .u64 d.x2, .int .u64 d.x3] 27) = w8 at *
    generalize w7.heap.size = T13 at *
    have r_cp := (M7.out.r (w.heap.size, [.int .i64 (B : Int), .int .i64 (C : Int)]) (by simp)).1
    have cp0 := r_cp 0 _ rfl
    have cp1 := r_cp 1 _ rfl
    simp only [Nat.zero_add] at cp0 cp1
    clear r_cp
    go_upto_region 10 with (first | (go_at_call 11; refine (AL.out _).mono ?_; rintro e w9 ⟨rfl, hb⟩; have M9 := hidden (M7.out.keep hb); clear hb M7 cp0 cp1))
    have r_cp := (M9.out.r (w.heap.size, [.int .i64 (B : Int), .int .i64 (C : Int)]) (by simp)).1
    have cp0 := r_cp 0 _ rfl
    have cp1 := r_cp 1 _ rfl
    have r_cy := (M9.out.r (w.heap.size + 1, [.int .u64 y.x0, .int .u64 y.x1, .int .u64 y.x2, .int .u64 y.x3]) (by simp)).1
    have cy0 := r_cy 0 _ rfl
    have cy1 := r_cy 1 _ rfl
    have cy2 := r_cy 2 _ rfl
    have cy3 := r_cy 3 _ rfl
    have r_cz := (M9.out.r (w.heap.size + 1 + 1, [.int .u64 z.x0, .int .u64 z.x1, .int .u64 z.x2, .int .u64 z.x3]) (by simp)).1
    have cz0 := r_cz 0 _ rfl
    have cz1 := r_cz 1 _ rfl
    have cz2 := r_cz 2 _ rfl
    have cz3 := r_cz 3 _ rfl
    have r_cd := (M9.out.r (T13, [.int .u64 d.x0, .int .u64 d.x1, .int .u64 d.x2, .int .u64 d.x3]) (by simp)).1
    have cd0 := r_cd 0 _ rfl
    have cd1 := r_cd 1 _ rfl
    have cd2 := r_cd 2 _ rfl
    have cd3 := r_cd 3 _ rfl
    simp only [Nat.zero_add] at cp0 cp1 cy0 cy1 cy2 cy3 cz0 cz1 cz2 cz3 cd0 cd1 cd2 cd3
    clear r_cp r_cy r_cz r_cd
    refine lw10 _ w.heap.size (w.heap.size + 1) (w.heap.size + 1 + 1) T13 (B : Int) (C : Int) y z d ny nz _ _ _ _ _ _ _ _ _ _ _ _ _ _ _ _ _ _ _ _ _ _ _ _ _ _ _ _ _ _ _ _ _ _ _ _ _ _ _ _ _ _ _ _ _ _ _ _ _ _ _ _ _ _ _ _ _ _ _ _ _ _ _ _ _ _ _ _ _ _ _ _ _ _ _ _ _ _ _ _ _ _ _ _ _ _ _ _ _ _ _ _ _ _ _ _ _ _ _ _ _ _ _ _ _ _ _ _ _ _ _ _ _ _ w9 cp0 cp1 cy0 cy1 cy2 cy3 cz0 cz1 cz2 cz3 cd0 cd1 cd2 cd3 NY NZ RD VI (hidden ?_)
    intro wf hb
    have BF := hidden (bl_trans M9.out.bel hb)
    clear cp0 cp1 cy0 cy1 cy2 cy3 cz0 cz1 cz2 cz3 cd0 cd1 cd2 cd3 hb M9
    go_wp2_with fail
    refine bodyPost_ret (v := .bool true) (by simp [results, Tryd.results3, go_sem]) rfl ⟨rfl, BF.out⟩
  · have hal' : al b c = false := by simpa using hal
    rw [hal'] at AL
    have DE := hidden (fun x T => Delta_out b c hal' y z HY.out HZ.out x T)
    have hqq := eq4z
    simp only [E4.v, zero4] at DE
    clear hal hal'
    go_upto_region 8 with (first | (go_at_call 10; refine (DE.out _ HT6.out).mono ?_; rintro e w7 ⟨rfl, hb⟩; have M7 := hidden ((M6.out.keep hb).new [.int .u64 0, .int .u64 0, .int .u64 0, .int .u64 0] 27); clear hb M6 DE cp0 cp1 cy0 cy1 cy2 cy3 cz0 cz1 cz2 cz3))
    generalize w7.alloc (.cells #[.int .u64 0, .int .u64 0, .int .u64 0, .int .u64 0] 27) = w8 at *
    generalize w7.heap.size = T13 at *
    have r_cp := (M7.out.r (w.heap.size, [.int .i64 b, .int .i64 c]) (by simp)).1
    have cp0 := r_cp 0 _ rfl
    have cp1 := r_cp 1 _ rfl
    simp only [Nat.zero_add] at cp0 cp1
    clear r_cp
    go_upto_region 9 with (first | (go_at_call 11; refine (AL.out _).mono ?_; rintro e w9 ⟨rfl, hb⟩; have M9 := hidden (M7.out.keep hb); clear hb M7 cp0 cp1))
    have r_cd := (M9.out.r (T13, [.int .u64 0, .int .u64 0, .int .u64 0, .int .u64 0]) (by simp)).1
    have cd0 := r_cd 0 _ rfl
    have cd1 := r_cd 1 _ rfl
    have cd2 := r_cd 2 _ rfl
    have cd3 := r_cd 3 _ rfl
    simp only [Nat.zero_add] at cd0 cd1 cd2 cd3
    clear r_cd
    go_wp2_with fail
    refine bodyPost_ret (v := .bool true) (by simp [results, Tryd.results3, go_sem]) rfl ⟨rfl, M9.out.bel⟩
end Go.Proofs.YtpblcnefihhhoaaDoor
