import Derived.Test.YtkoilaoogphgfaaGreatDoorSop
import Derived.Laws.Bits64b
import Derived.Laws.BitsAllLaws
import Derived.Test.YtkoilaoogphgfaaGreatDoorXz
import Derived.Lib.SliceRun
import Derived.OwnWalkIn
import Derived.Deep.MidRow
import Derived.Deep.RegionHeld3
namespace Go.Proofs.YtkoilaoogphgfaaGreatDoor
open Go.RowKit
set_option linter.unusedVariables false
noncomputable def al (b c : Int) : Bool := decide (1 ≤ b ∧ b ≤ 64 ∧ bits .and .i64 b (b - 1) = 0 ∧ 1 ≤ c ∧ c ≤ 16 ∧ bits .and .i64 c (c - 1) = 0)
def rd (n : Nat) : Nat := if n ≤ 1 then 0 else if n ≤ 2 then 1 else if n ≤ 4 then 2 else if n ≤ 8 then 3 else if n ≤ 16 then 4 else if n ≤ 32 then 5 else if n ≤ 64 then 6 else if n ≤ 128 then 7 else if n ≤ 256 then 8 else if n ≤ 512 then 9 else 10
theorem rd_le (n : Nat) : rd n ≤ 10 := by
 unfold rd
 (repeat' split)
 all_goals omega
theorem rd_is (n k : Nat) (hk : k ≤ 10) (h1 : k = 0 ∨ 2 ^ (k - 1) < n) (h2 : n ≤ 2 ^ k) : rd n = k := by
 obtain rfl | rfl | rfl | rfl | rfl | rfl | rfl | rfl | rfl | rfl | rfl : k = 0 ∨ k = 1 ∨ k = 2 ∨ k = 3 ∨ k = 4 ∨ k = 5 ∨ k = 6 ∨ k = 7 ∨ k = 8 ∨ k = 9 ∨ k = 10 := by omega
 all_goals
  simp at h1 h2
  unfold rd
  (repeat' split)
  all_goals omega
end Go.Proofs.YtkoilaoogphgfaaGreatDoor
namespace Go.Proofs.YtkoilaoogphgfaaGreatDoor
open Go.RowKit
set_option linter.unusedVariables false
structure Pb (w : World) (b : Nat) (B C : Int) : Prop where
 c0 : w.cell? ⟨b, 0, none⟩ = some (.int .i64 B)
 c1 : w.cell? ⟨b, 1, none⟩ = some (.int .i64 C)
theorem Pb.keep {w w' : World} {b : Nat} {B C : Int} (h : Pb w b B C) (hb : Below w.heap.size w w') : Pb w' b B C := ⟨cell_keep h.c0 hb, cell_keep h.c1 hb⟩
theorem Pb.new (w : World) (B C : Int) (t : TypeId) : Pb (w.alloc (.cells #[.int .i64 B, .int .i64 C] t)) w.heap.size B C := ⟨by go_simp, by go_simp⟩
theorem Pb.lt {w : World} {b : Nat} {B C : Int} (h : Pb w b B C) : b < w.heap.size := World.block_lt_of_cell? w ⟨b, 0, none⟩ h.c0
theorem Pb.drew {w : World} {b : Nat} {B C : Int} (h : Pb w b B C) : Pb w.drew b B C := h.keep (Below.drew (Below.refl _ _))
theorem bl_drew (w : World) : Below w.heap.size w w.drew := Below.drew (Below.refl _ _)
end Go.Proofs.YtkoilaoogphgfaaGreatDoor
namespace Go.Proofs.YtkoilaoogphgfaaGreatDoor
open Go.RowKit
set_option linter.unusedVariables false
theorem svs_one (g : Nat → E4) (n : Nat) : ∀ u ∈ svs n g, u.oneCell' = true := by
 induction n with
 | zero => intro u hu; simp [svs] at hu
 | succ n ih =>
  intro u hu
  rw [svs_succ] at hu
  rcases List.mem_append.1 hu with h | h
  ·exact ih u h
  ·simp only [List.mem_cons, List.not_mem_nil, or_false] at h
   rcases h with rfl | rfl | rfl | rfl <;> rfl
theorem own_shape4 {w : World} {base n s : Nat} {e : TypeId} {v : Value} {xs : List Value} (h : w.ownsRow base e s v n xs) : ∃ (P : Option Addr) (c : Nat), v = .slice P n c ∧ n ≤ c := by
 rcases h.2 with ⟨rfl, rfl⟩ | ⟨g, cap, cur, rfl, _, _, hn, _⟩
 ·exact ⟨none, 0, rfl, Nat.le_refl _⟩
 ·exact ⟨_, _, rfl, hn⟩
theorem own_some4 {w : World} {base n s : Nat} {e : TypeId} {v : Value} {xs : List Value} (h : w.ownsRow base e s v n xs) (hn : 0 < n) : ∃ g c : Nat, v = .slice (some ⟨g, 0, none⟩) n c ∧ n ≤ c := by
 rcases h.2 with ⟨_, h0⟩ | ⟨g, cap, cur, rfl, _, _, hnc, _⟩
 ·omega
 ·exact ⟨g, cap, rfl, hnc⟩
theorem svs_at (n m o : Nat) (g : Nat → E4) (w : World) (b : Nat) (h : Rws w b m g) (hn : o + n ≤ m) : ∀ j u, (svs n (fun k => g (o + k)))[j]? = some u → w.cell? ⟨b, o * 4 + j, none⟩ = some u := by
 induction n with
 | zero => intro j u hu; simp [svs] at hu
 | succ n ih =>
  intro j u hu
  rw [svs_succ] at hu
  by_cases hj : j < n * 4
  ·rw [List.getElem?_append_left (by rw [svs_len]; exact hj)] at hu
   exact ih (by omega) j u hu
  ·rw [List.getElem?_append_right (by rw [svs_len]; omega), svs_len] at hu
   obtain ⟨d, hd⟩ : ∃ d, j = n * 4 + d := ⟨j - n * 4, by omega⟩
   subst hd
   rw [show n * 4 + d - n * 4 = d by omega] at hu
   match d, hu with
   | 0, hu => simp at hu; rw [← hu, show o * 4 + (n * 4 + 0) = (o + n) * 4 by omega]; exact h.c0 (o + n) (by omega)
   | 1, hu => simp at hu; rw [← hu, show o * 4 + (n * 4 + 1) = (o + n) * 4 + 1 by omega]; exact h.c1 (o + n) (by omega)
   | 2, hu => simp at hu; rw [← hu, show o * 4 + (n * 4 + 2) = (o + n) * 4 + 2 by omega]; exact h.c2 (o + n) (by omega)
   | 3, hu => simp at hu; rw [← hu, show o * 4 + (n * 4 + 3) = (o + n) * 4 + 3 by omega]; exact h.c3 (o + n) (by omega)
theorem cell_keepA {w w' : World} {a : Addr} {v : Value} (h : w.cell? a = some v) (hb : Below w.heap.size w w') : w'.cell? a = some v := (hb.cell (p := a) (World.block_lt_of_cell? w a h)).trans h
theorem info27 : (Tryz.prog.info? 32).map (fun i => (i.zero, i.size, i.bytes)) = some (some (.agg #[.int .u64 0, .int .u64 0, .int .u64 0, .int .u64 0]), 4, 32) := by kernel_rfl
set_option maxRecDepth 100000 in
set_option maxHeartbeats 4000000 in
theorem sclone_any (P : Option Addr) (c m : Nat) (g : Nat → E4) (w : World) (hn : P = none → m = 0 ∧ c = 0) (hc : ∀ a, P = some a → ∀ j u, (svs m g)[j]? = some u → w.cell? (a.add j) = some u) (hl : m ≤ 4398046510976) :
  Calls Tryz.prog 20 #[.slice P m c] w fun e w' => ∃ (Q : Option Addr) (d : Nat), e = .returned (.slice Q m d) ∧ w'.ownsRow w.heap.size 32 4 (.slice Q m d) m (svs m g) ∧ Below w.heap.size w w' := by
 have eqn := fun (a : Option Addr) (l c : Nat) (w : World) => Lib.run_eql_slice_nil (P := Tryz.prog) w 33 32 a l c 0 0 (by kernel_rfl)
 have HL := hidden hl
 cases P with
 | none =>
  obtain ⟨rfl, rfl⟩ := hn rfl
  clear hn hc hl
  go_enter Tryz.func20, Tryz.ntmps20
  go_wp2_with fail
  refine bodyPost_ret (v := .slice none 0 0) (by simp [results, Tryz.results20, go_sem]) rfl ⟨none, 0, rfl, World.ownsRow_nil _ _ _ _, Below.refl _ _⟩
 | some ad =>
  obtain ⟨i0, hi, hz0, hz1, hz2⟩ := info_parts info27
  have HI := hidden hi
  have HZ0 := hidden hz0
  have HZ1 := hidden hz1
  have HZ2 := hidden hz2
  have HU : Hid (Tryz.prog.underlying 33 = some (.slice 32)) := hidden (by kernel_rfl)
  have O0 := hidden (World.ownsRow_made (base := w.heap.size) (e := 32) (size := 4) w #[] 0 (Nat.le_refl _) (by unfold maxLen; omega) rfl)
  have B0 := hidden (bl_alloc w (.cells #[] 32))
  have HC : Hid (∀ j u, (svs m g)[j]? = some u → (w.alloc (.cells #[] 32)).cell? (ad.add j) = some u) := hidden (fun j u hu => cell_keepA (hc ad rfl j u hu) (bl_alloc w _))
  clear hn hc hl hi hz0 hz1 hz2
  go_enter Tryz.func20, Tryz.ntmps20
  go_wp2_with (first | (at_builtin; refine wpList_append_own_at _ rfl _ _ 33 rfl w.heap.size 32 i0 (.agg #[.int .u64 0, .int .u64 0, .int .u64 0, .int .u64 0]) 4 32 HU.out HI.out HZ0.out HZ1.out HZ2.out rfl (by decide) _ 0 [] rfl O0.out ad m c (svs m g) rfl (svs_len _ _) HC.out (svs_one g m) (by have := HL.out; unfold maxLen; omega) (by have := HL.out; omega) B0.out.size ?_; intro v2 w2 ho2 hg2 hn2 ha2; have HO := hidden ho2; have HB := hidden (below_trans B0.out (below_grown hg2 B0.out.size (fun k hk => (O0.out.lt k hk).1))); clear ho2 hg2 hn2 ha2; rw [Nat.zero_add, List.nil_append] at HO))
  obtain ⟨Q, d, rfl, -⟩ := own_shape4 HO.out
  refine bodyPost_ret (v := .slice Q m d) (by simp [results, Tryz.results20, go_sem]) rfl ⟨Q, d, rfl, HO.out, HB.out⟩
theorem sclone_in (b m o n c : Nat) (g : Nat → E4) (w : World) (h : Rws w b m g) (hm : o + n ≤ m) (h0 : 0 < n) (hl : m ≤ 4398046510976) :
  Calls Tryz.prog 20 #[.slice (some ⟨b, o * 4, none⟩) n c] w fun e w' => ∃ q d : Nat, e = .returned (.slice (some ⟨q, 0, none⟩) n d) ∧ w.heap.size ≤ q ∧ n ≤ d ∧ Rws w' q n (fun k => g (o + k)) ∧ Below w.heap.size w w' := by
 refine (sclone_any (some ⟨b, o * 4, none⟩) c n (fun k => g (o + k)) w (fun e => by cases e) (fun a ha j u hu => ?_) (by omega)).mono ?_
 ·cases ha
  have := svs_at n m o g w b h hm j u hu
  by_cases e : j = 0
  ·subst e; simpa [Addr.add] using this
  ·simpa [Addr.add, e] using this
 ·rintro e w' ⟨Q, d, rfl, ho, hb⟩
  obtain ⟨q, d', hq, hd⟩ := own_some4 ho h0
  cases hq
  exact ⟨q, d, rfl, (ho.lt q rfl).1, hd, Rws.own ho, hb⟩
end Go.Proofs.YtkoilaoogphgfaaGreatDoor
namespace Go.Proofs.YtkoilaoogphgfaaGreatDoor
open Go.RowKit
set_option linter.unusedVariables false
theorem results_tupM {fn : Func} {p q : Tmp} {ty : TypeId} (h : fn.results = #[.cell p ty, .tmp q]) (tmps : Array Value) (P : Program) (w : World) (a : Addr) (v x : Value) (ha : tmps.getD p undef = .pointer (some a)) (hx : tmps.getD q undef = x) (hl : (loadVar ty a).run P w = .ok v w) :
  (results fn tmps).run P w = .ok (.tuple #[v, x]) w := by
 have ha' : tmps[p]?.getD undef = .pointer (some a) := by simpa using ha
 have hx' : tmps[q]?.getD undef = x := by simpa using hx
 simp only [results, h]
 simp [Result.andThen, ha', hx', asAddr, hl]
theorem below_setCellsM {w0 : World} (b : Nat) : ∀ (vs : List Value) (o : Nat) {w : World}, Below w0.heap.size w0 w → w0.heap.size ≤ b → Below w0.heap.size w0 (w.setCells b o vs)
 | [], _, _, h, _ => h
 | v :: vs, o, w, h, hb => by
  rw [World.setCells]
  exact below_setCellsM b vs (o + 1) (h.setCell hb v) hb
theorem size_setCellsM (b : Nat) : ∀ (vs : List Value) (o : Nat) (w : World), (w.setCells b o vs).heap.size = w.heap.size
 | [], _, _ => rfl
 | v :: vs, o, w => by rw [World.setCells, size_setCellsM b vs (o + 1)]; simp
theorem range_keepM {w w' : World} {b : Nat} {cs : List Value} (h : w.rangeAt b 0 cs) (hb : Below w.heap.size w w') : w'.rangeAt b 0 cs := fun j v hv => by
 have := h j v hv
 rw [hb.cell (p := ⟨b, 0 + j, none⟩) (World.block_lt_of_cell? w ⟨b, 0 + j, none⟩ this)]
 exact this
theorem there_keepM {w w' : World} {b n : Nat} (h : w.there b 0 n) (hb : Below w.heap.size w w') : w'.there b 0 n := fun j hj => by
 obtain ⟨h1, h2⟩ := h j hj
 obtain ⟨u, hu⟩ := Option.isSome_iff_exists.1 h1
 have hl := World.block_lt_of_cell? w _ hu
 exact ⟨by rw [hb.cell (p := ⟨b, 0 + j, none⟩) hl]; exact h1, by rw [hb.frozen (p := ⟨b, 0 + j, none⟩) hl]; exact h2⟩
theorem there_setM {w : World} {b n : Nat} (h : w.there b 0 n) (c : Nat) (vs : List Value) : (w.setCells c 0 vs).there b 0 n := fun j hj =>
 ⟨World.isSome_setCells c vs 0 w _ (h j hj).1, by rw [World.frozen?_setCells]; exact (h j hj).2⟩
theorem range_newM (w : World) (cs : List Value) (t : TypeId) : (w.alloc (.cells cs.toArray t)).rangeAt w.heap.size 0 cs := fun j v hv => by
 rw [cell_of_row _ _ (0 + j) cs.toArray t (0, 0) (heap_alloc_new w _), Nat.zero_add]
 simpa using hv
theorem there_newM (w : World) (cs : List Value) (t : TypeId) : (w.alloc (.cells cs.toArray t)).there w.heap.size 0 cs.length := fun j hj => by
 refine ⟨?_, by go_simp⟩
 rw [cell_of_row _ _ (0 + j) cs.toArray t (0, 0) (heap_alloc_new w _), Nat.zero_add]
 simp [hj]
structure Mw (w0 : World) (L : List (Nat × List Value)) (w : World) : Prop where
 bel : Below w0.heap.size w0 w
 r : ∀ p ∈ L, w.rangeAt p.1 0 p.2 ∧ w.there p.1 0 p.2.length ∧ w0.heap.size ≤ p.1 ∧ p.1 < w.heap.size
theorem Mw.start (w : World) : Mw w [] w := ⟨Below.refl _ _, fun p hp => by cases hp⟩
theorem Mw.keep {w0 : World} {L : List (Nat × List Value)} {w w' : World} (h : Mw w0 L w) (hb : Below w.heap.size w w') : Mw w0 L w' :=
 ⟨bl_trans h.bel hb, fun p hp => ⟨range_keepM (h.r p hp).1 hb, there_keepM (h.r p hp).2.1 hb, (h.r p hp).2.2.1, Nat.lt_of_lt_of_le (h.r p hp).2.2.2 hb.size⟩⟩
theorem Mw.sub {w0 : World} {L M : List (Nat × List Value)} {w : World} (h : Mw w0 L w) (hs : ∀ p ∈ M, p ∈ L) : Mw w0 M w := ⟨h.bel, fun p hp => h.r p (hs p hp)⟩
theorem Mw.new {w0 : World} {L : List (Nat × List Value)} {w : World} (h : Mw w0 L w) (cs : List Value) (t : TypeId) : Mw w0 ((w.heap.size, cs) :: L) (w.alloc (.cells cs.toArray t)) := by
 have k := h.keep (bl_alloc w (.cells cs.toArray t))
 refine ⟨k.bel, fun p hp => ?_⟩
 rcases List.mem_cons.1 hp with rfl | hp
 ·exact ⟨range_newM w cs t, there_newM w cs t, h.bel.size, by simp⟩
 ·exact k.r p hp
theorem Mw.set {w0 : World} {L M : List (Nat × List Value)} {w : World} (h : Mw w0 L w) {c : Nat} {o : List Value} (ds : List Value) (hc : (c, o) ∈ L) (hl : ds.length = o.length) (hs : ∀ p ∈ M, p ∈ L ∧ c ≠ p.1) :
  Mw w0 ((c, ds) :: M) (w.setCells c 0 ds) := by
 obtain ⟨h1, ht, hg, hlt⟩ := h.r _ hc
 simp only at hg ht hlt
 refine ⟨below_setCellsM c ds 0 h.bel hg, fun p hp => ?_⟩
 rcases List.mem_cons.1 hp with rfl | hp
 ·exact ⟨World.rangeAt_setCells_same w c 0 ds (by rw [hl]; exact ht), there_setM (by simp only [hl]; exact ht) _ _, hg, by rw [size_setCellsM]; exact hlt⟩
 ·obtain ⟨h3, h2⟩ := hs p hp
  exact ⟨World.rangeAt_setCells_apart (h.r p h3).1 _ _ _ (Or.inl (fun e => h2 e.symm)), there_setM (h.r p h3).2.1 _ _, (h.r p h3).2.2.1, by rw [size_setCellsM]; exact (h.r p h3).2.2.2⟩
theorem Mw.ther {w0 : World} {L : List (Nat × List Value)} {w : World} (h : Mw w0 L w) {c : Nat} {o : List Value} (ds : List Value) (hc : (c, o) ∈ L) (hl : ds.length = o.length) : w.there c 0 ds.toArray.size := by
 have := (h.r _ hc).2.1
 simpa [hl] using this
theorem Mw.var {w0 : World} {L : List (Nat × List Value)} {w : World} (h : Mw w0 L w) {c : Nat} {ds : List Value} (hc : (c, ds) ∈ L) {ty : TypeId} {d : TypeDesc} (hu : Tryz.prog.underlying ty = some d) (hd : d.isRow = true) (hi : (Tryz.prog.info? ty).map (·.size) = some ds.length) :
  (loadVar ty ⟨c, 0, none⟩).run Tryz.prog w = .ok (.agg ds.toArray) w := run_loadVar_mid w c 0 ty ds d (h.r _ hc).1 hu hd hi
theorem wpList_storeL {P : Program} {ops : Array Oper} {rest : List Oper} {o : Oper} {a : Act} {w : World} {Q : Exit → Act → World → Prop} (hg : o.guard = none) (ty : TypeId) (x y : Operand) (ho : o.op = .store ty x y) (hd : o.dst = none)
  (b off : Nat) (cs : List Value) (hx : a.eval x = .pointer (some ⟨b, off, none⟩)) (hy : a.eval y = .agg cs.toArray) (ht : w.there b off cs.toArray.size) (hi : (P.info? ty).map (·.size) = some cs.toArray.size) (h1 : cs.toArray.all (·.oneCell') = true)
  (h : wpList P ops Q rest a (w.setCells b off cs)) : wpList P ops Q (o :: rest) a w := by
 refine wpList_store_mid hg ty x y ho b off cs.toArray hx hy ht hi h1 ?_
 rw [hd, List.toList_toArray]
 exact h
set_option linter.unusedVariables false
theorem gb_setCells (b : Nat) : ∀ (vs : List Value) (o : Nat) (w : World), w.grownBy (w.setCells b o vs) (some b)
 | [], _, w => World.grownBy.refl _ _
 | v :: vs, o, w => by
  rw [World.setCells]
  have h1 : w.grownBy (w.setCell ⟨b, o, none⟩ v) (some b) := ⟨rfl, rfl, rfl, by simp, fun k _ hk => heap_setCell_other w ⟨b, o, none⟩ k v (fun e => hk (by simp [e]))⟩
  exact h1.trans (gb_setCells b vs (o + 1) _)
def tc (a r s t : E4) (L R : Value) : List Value := [.int .u64 a.x0, .int .u64 a.x1, .int .u64 a.x2, .int .u64 a.x3, .int .u64 r.x0, .int .u64 r.x1, .int .u64 r.x2, .int .u64 r.x3, .int .u64 s.x0, .int .u64 s.x1, .int .u64 s.x2, .int .u64 s.x3, .int .u64 t.x0, .int .u64 t.x1, .int .u64 t.x2, .int .u64 t.x3, L, R]
def tz : List Value := tc zero4 zero4 zero4 zero4 (.slice none 0 0) (.slice none 0 0)
end Go.Proofs.YtkoilaoogphgfaaGreatDoor
namespace Go.Proofs.YtkoilaoogphgfaaGreatDoor
open Go.RowKit
set_option maxRecDepth 100000 in
set_option maxHeartbeats 16000000 in
theorem rTape_c (P : Option Addr) (sb so len cap n : Nat) (f : Nat → Int) (w : World) (hP : 0 < n → P = some ⟨sb, so, none⟩) (hn : n ≤ 4096) (hl : 64 * n ≤ len) (hlen : len < 9223372036854775807) (hB : 0 < n → Bs w sb so len f) :
  Calls Tryz.prog 21 #[.slice P len cap, .int .i64 n] w fun e w' => ∃ (v : Value) (p : Option Addr) (c : Nat), e = .returned (.tuple #[v, .int .i64 0]) ∧ v = .slice p n c ∧ (0 < n → ∃ b : Nat, p = some ⟨b, 0, none⟩ ∧ w.heap.size ≤ b ∧ Rws w' b n (tp f) ∧ n ≤ c) ∧ Below w.heap.size w w' := by
 have HB := hidden hB
 have HP := hidden hP
 clear hP
 have nn0 : ¬ (n : Int) < 0 := by omega
 have nn1 : ¬ (4096 : Int) < (n : Int) := by omega
 have nn2 : (0 : Int) ≤ (n : Int) := by omega
 obtain ⟨q, hq⟩ : ∃ q, len / 64 = q := ⟨_, rfl⟩
 have dq : (len : Int).tdiv 64 = (q : Int) := by rw [Int.tdiv_eq_ediv_of_nonneg (by omega)]; omega
 have wq : IntKind.i64.wrap (q : Int) = (q : Int) := IntWalk.i64_in _ (by omega)
 have ll : ¬ (q : Int) < (n : Int) := by omega
 obtain ⟨i0, hi, hz0, hz1, hz2⟩ := info_parts refinfo
 have HI0 := hidden hi
 have HZ0 := hidden hz0
 have HZ1 := hidden hz1
 have HZ2 := hidden hz2
 have HL := hidden hl
 have HN := hidden hn
 have HLEN := hidden hlen
 clear hB hi hz0 hz1 hz2 hl hn hlen hq
 go_enter Tryz.func21, Tryz.ntmps21
 go_wp2_with fail
 clear dq wq ll nn0 nn1
 go_loopw [6, 7] (fun ov iv w' => ∃ i : Nat, i ≤ n ∧ iv = .int .i64 i ∧ Hid (w'.ownsRow w.heap.size 43 4 ov i (svs i (tp f))) ∧ Hid (Below w.heap.size w w')) (fun _ i _ => n - (intOf i).toNat)
 case atStart => exact ⟨0, by omega, rfl, hidden (World.ownsRow_nil _ _ _ _), hidden (Below.refl _ _)⟩
 case round =>
  obtain ⟨i, hi, rfl, how, hbl⟩ := hrel
  by_cases hin : i < n
  ·obtain rfl := HP.out (by omega)
   have ii0 : (0 : Int) ≤ (i : Int) := by omega
   have ii1 : (i : Int) < (n : Int) := by omega
   have BS := hidden ((HB.out (by omega)).keep hbl.out)
   have hn := HN.out
   have hl := HL.out
   have hlen := HLEN.out
   have v1 : IntKind.i64.wrap (64 * (i : Int)) = 64 * (i : Int) := IntWalk.i64_in _ (by omega)
   generalize wr = ws at *
   go_upto_region 9 with fail
   go_cut [8] (fun vx wx => ∃ pb : Nat, vx = .pointer (some ⟨pb, 0, none⟩) ∧ ws.heap.size ≤ pb ∧ Rb wx pb (fun _ => 0) ∧ Below ws.heap.size ws wx)
   case first =>
    have R0 := hidden (Rb.new ws 106)
    have B0 := hidden (bl_alloc ws (.cells #[.int .u8 0, .int .u8 0, .int .u8 0, .int .u8 0, .int .u8 0, .int .u8 0, .int .u8 0, .int .u8 0, .int .u8 0, .int .u8 0, .int .u8 0, .int .u8 0, .int .u8 0, .int .u8 0, .int .u8 0, .int .u8 0, .int .u8 0, .int .u8 0, .int .u8 0, .int .u8 0, .int .u8 0, .int .u8 0, .int .u8 0, .int .u8 0, .int .u8 0, .int .u8 0, .int .u8 0, .int .u8 0, .int .u8 0, .int .u8 0, .int .u8 0, .int .u8 0, .int .u8 0, .int .u8 0, .int .u8 0, .int .u8 0, .int .u8 0, .int .u8 0, .int .u8 0, .int .u8 0, .int .u8 0, .int .u8 0, .int .u8 0, .int .u8 0, .int .u8 0, .int .u8 0, .int .u8 0, .int .u8 0, .int .u8 0, .int .u8 0, .int .u8 0, .int .u8 0, .int .u8 0, .int .u8 0, .int .u8 0, .int .u8 0, .int .u8 0, .int .u8 0, .int .u8 0, .int .u8 0, .int .u8 0, .int .u8 0, .int .u8 0, .int .u8 0] 106))
    clear hn hl hlen
    go_wp2_with fail
    go_meet
    exact ⟨_, rfl, Nat.le_refl _, R0.out, B0.out⟩
   case rest =>
   obtain ⟨pb, rfl, hpb, r0, b0⟩ := hcut
   have R0 := hidden r0
   have B0 := hidden b0
   clear r0 b0
   have HNL : Hid (64 * i + 64 ≤ len ∧ len < 9223372036854775807) := hidden ⟨by omega, hlen⟩
   clear hn hl hlen
   go_wp2_with fail
   go_loopw [9] (fun kv w' => ∃ k : Nat, k ≤ 64 ∧ kv = .int .i64 k ∧ Hid (Rb w' pb (fun j => if j < k then f (64 * i + j) else 0)) ∧ Hid (Below ws.heap.size ws w')) (fun k _ => 64 - (intOf k).toNat)
   case atStart => exact ⟨0, by omega, rfl, hidden ⟨fun j hj => by rw [if_neg (by omega)]; exact R0.out.c j hj, R0.out.fr⟩, B0⟩
   case round =>
    clear R0 B0
    obtain ⟨k, hk, rfl, hr, hb2⟩ := hrel
    by_cases hk64 : k < 64
    ·have kk0 : (0 : Int) ≤ (k : Int) := by omega
     have kk1 : (k : Int) < 64 := by omega
     obtain ⟨nl1, nl2⟩ := HNL.out
     have v2 : IntKind.i64.wrap (64 * (i : Int) + (k : Int)) = 64 * (i : Int) + (k : Int) := IntWalk.i64_in _ (by omega)
     have s1 : (0 : Int) ≤ 64 * (i : Int) + (k : Int) := by omega
     have s2 : 64 * (i : Int) + (k : Int) < (len : Int) := by omega
     have s3 : (64 * (i : Int) + (k : Int)).toNat = 64 * i + k := by omega
     have cs := cell_keep (BS.out.c (64 * i + k) (by omega)) hb2.out
     have cr := hr.out.c k hk64
     have fr := hr.out.fr k hk64
     have NR : Hid (Rb (wr.setCell ⟨pb, k, none⟩ (.int .u8 (f (64 * i + k)))) pb (fun j => if j < k + 1 then f (64 * i + j) else 0)) := hidden ⟨fun j hj => by
      rw [(hr.out.at k hk64 (f (64 * i + k))).c j hj]
      by_cases hjk : j = k
      ·subst hjk
       rw [if_pos rfl, if_pos (by omega)]
      ·rw [if_neg hjk]
       by_cases hlt : j < k
       ·rw [if_pos hlt, if_pos (by omega)]
       ·rw [if_neg hlt, if_neg (by omega)], (hr.out.at k hk64 (f (64 * i + k))).fr⟩
     have NB : Hid (Below ws.heap.size ws (wr.setCell ⟨pb, k, none⟩ (.int .u8 (f (64 * i + k))))) := hidden (hb2.out.setCell hpb _)
     generalize f (64 * i + k) = v at *
     clear hr hb2 nl1 nl2
     go_wp2_with fail
     go_roundw
     case rel => exact ⟨k + 1, by omega, by go_num, NR, NB⟩
     case measure => simp [intOf]; omega
    ·have hkk : k = 64 := by omega
     subst hkk
     rw [show ((64 : Nat) : Int) = 64 from rfl]
     have hrb : Rb wr pb (fun j => f (64 * i + j)) := ⟨fun j hj => by rw [hr.out.c j hj, if_pos hj], hr.out.fr⟩
     have hra := hrb.range
     have nl := HNL.out
     have hz : ∀ z ∈ b64 f (64 * i), 0 ≤ z ∧ z ≤ 255 := fun z hz => by
      rcases List.mem_append.1 hz with h | h
      ·exact b32_in BS.out (64 * i) (by omega) z h
      ·exact b32_in BS.out (64 * i + 32) (by omega) z h
     obtain ⟨X, hX⟩ : ∃ X, tp f i = X := ⟨_, rfl⟩
     have wd := hidden (fun w => fix (rWide_any (b64 f (64 * i)) w (b64_len _ _) hz) ((tp_64 f i).symm.trans hX))
     have hlc : ((b64 f (64 * i)).map fun z => Value.int .u8 z).length = 64 := by simp [b64_len]
     have hi2 : (Tryz.prog.info? 106).map (·.size) = some ((b64 f (64 * i)).map fun z => Value.int .u8 z).length := by rw [hlc]; kernel_rfl
     have hu : Tryz.prog.underlying 106 = some (.array 64 5) := by kernel_rfl
     unfold bv at wd
     generalize (b64 f (64 * i)).map (fun z => Value.int .u8 z) = cs at *
     have HRA := hidden hra
     have HI := hidden hi2
     have HU := hidden hu
     have OW := hidden (own_keepS how.out hb2.out)
     have B2 := hidden (bl_trans hbl.out hb2.out)
     have SV := hidden (svs_succ i (tp f))
     rw [hX] at SV
     have n9 := HN.out
     have w9 : IntKind.i64.wrap ((i : Int) + 1) = (i : Int) + 1 := IntWalk.i64_in _ (by omega)
     have N9 := hidden (show i + 1 ≤ 4096 by omega)
     simp only [E4.v] at wd
     clear hr hb2 hrb hra nl hz hX hlc hi2 hu how hbl BS n9
     go_upto_region 14 with fail
     go_wp2_with (refine wpList_load_mid rfl 106 _ rfl pb 0 (by rfl) cs _ HRA.out HU.out rfl HI.out ?_)
     refine (wd.out _).mono ?_
     rintro e w2 ⟨rfl, hb3⟩
     have O2 := hidden (own_keepS OW.out hb3)
     have B3 := hidden (bl_trans B2.out hb3)
     have bs := B3.out.size
     clear hb3 OW B2 HRA HI HU wd
     go_wp2_with (first | (at_builtin; refine wpList_append_moreS _ rfl _ _ 44 rfl w.heap.size 43 i0 (.agg #[.int .u64 0, .int .u64 0, .int .u64 0, .int .u64 0]) 32 (by kernel_rfl) HI0.out HZ0.out HZ1.out HZ2.out rfl _ _ _ rfl (Or.inl (O2.out.alloc _)) ⟨w2.heap.size, 0, none⟩ [.int .u64 X.x0, .int .u64 X.x1, .int .u64 X.x2, .int .u64 X.x3] rfl rfl (cells_new w2 [.int .u64 X.x0, .int .u64 X.x1, .int .u64 X.x2, .int .u64 X.x3] 43) (by simp [Value.oneCell']) (by have := N9.out; unfold maxLen; omega) (by have := N9.out; omega) (by simp; omega) ?_; intro v' w3 hown hb4; have HO := hidden hown; have HB4 := hidden (bl_trans2 B3.out hb4 (by omega)); clear hown hb4))
     go_roundw
     case rel => exact ⟨i + 1, by omega, by go_num, hidden (by rw [SV.out]; exact HO.out), HB4⟩
     case measure => simp [intOf]; omega
  ·have hii : i = n := by omega
   subst hii
   have lq : ¬ (i : Int) < (i : Int) := by omega
   have RES : ∃ (p : Option Addr) (c : Nat), u6 = .slice p i c ∧ (0 < i → ∃ b : Nat, p = some ⟨b, 0, none⟩ ∧ w.heap.size ≤ b ∧ Rws wr b i (tp f) ∧ i ≤ c) := by
    rcases how.out.2 with ⟨h1, h2⟩ | ⟨gg, cp, cur, h1, hg, _, hnc, _, _, _⟩
    ·exact ⟨none, 0, by rw [h1, h2], fun h => by omega⟩
    ·have ho := how.out
     rw [h1] at ho
     exact ⟨_, cp, h1, fun _ => ⟨gg, rfl, hg, Rws.own ho, hnc⟩⟩
   obtain ⟨p, c, hv, hrw⟩ := RES
   have HV := hidden hv
   have HRW := hidden hrw
   clear how hv hrw
   go_wp2_with fail
   refine bodyPost_ret (v := .tuple #[u6, .int .i64 0]) (by simp [results, Tryz.results21, go_sem]) rfl ?_
   exact ⟨u6, rfl, p, c, HV.out, HRW.out, hbl.out⟩
end Go.Proofs.YtkoilaoogphgfaaGreatDoor
