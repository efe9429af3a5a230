import Derived.Test.YtpblcnefihhhoaaDoorStp
import Derived.Test.YtpblcnefihhhoaaDoorSkw
namespace Go.Proofs.YtpblcnefihhhoaaDoor
open Go.RowKit

theorem num_appT : ∀ (us vs : List Int), num (us ++ vs) = num us + 256 ^ us.length * num vs
  | [], vs => by simp [num]
  | u :: us, vs => by
    simp only [List.cons_append, num, num_appT us vs, List.length_cons, Nat.pow_succ]
    rw [Nat.mul_add]
    generalize 256 ^ us.length = P
    rw [show P * 256 * num vs = 256 * (P * num vs) by rw [Nat.mul_comm P, Nat.mul_assoc]]
    omega
/-- 64 bytes from a place on -/
def b64 (f : Nat → Int) (o : Nat) : List Int := b32 f o ++ b32 f (o + 32)
theorem b64_len (f : Nat → Int) (o : Nat) : (b64 f o).length = 64 := by simp [b64, b32_len]
theorem tp_64 (f : Nat → Int) (i : Nat) : tp f i = lst (num (b64 f (64 * i))) := by
  unfold tp b64
  rw [num_appT, b32_len]
  rw [Int.natCast_add, Int.natCast_mul, Int.mul_comm ((256 ^ 32 : Nat) : Int)]
  rfl
theorem refinfo : (Tryd.prog.info? 34).map (fun i => (i.zero, i.size, i.bytes)) = some (some (.agg #[.int .u64 0, .int .u64 0, .int .u64 0, .int .u64 0]), 4, 32) := by kernel_rfl

/-- a row of 64 bytes that is being filled -/
structure Rb (w : World) (b : Nat) (g : Nat → Int) : Prop where
  c : ∀ j, j < 64 → w.cell? ⟨b, j, none⟩ = some (.int .u8 (g j))
  fr : ∀ j, j < 64 → w.frozen? ⟨b, j, none⟩ = false
theorem Rb.at {w : World} {b : Nat} {g : Nat → Int} (h : Rb w b g) (k : Nat) (hk : k < 64) (v : Int) : Rb (w.setCell ⟨b, k, none⟩ (.int .u8 v)) b (fun j => if j = k then v else g j) := by
  refine ⟨fun j hj => ?_, fun j hj => by have := h.fr j hj; go_simp⟩
  by_cases hjk : j = k
  · subst hjk
    have hb := h.c j hj
    rw [if_pos rfl]
    go_simp
  · rw [World.cell?_setCell_other w _ _ _ (by intro e; exact hjk (congrArg Addr.off e).symm), h.c j hj, if_neg hjk]
theorem Rb.new (w : World) (t : TypeId) : Rb (w.alloc (.cells #[.int .u8 0, .int .u8 0, .int .u8 0, .int .u8 0, .int .u8 0, .int .u8 0, .int .u8 0, .int .u8 0, .int .u8 0, .int .u8 0, .int .u8 0, .int .u8 0, .int .u8 0, .int .u8 0, .int .u8 0, .int .u8 0, .int .u8 0, .int .u8 0, .int .u8 0, .int .u8 0, .int .u8 0, .int .u8 0, .int .u8 0, .int .u8 0, .int .u8 0, .int .u8 0, .int .u8 0, .int .u8 0, .int .u8 0, .int .u8 0, .int .u8 0, .int .u8 0, .int .u8 0, .int .u8 0, .int .u8 0, .int .u8 0, .int .u8 0, .int .u8 0, .int .u8 0, .int .u8 0, .int .u8 0, .int .u8 0, .int .u8 0, .int .u8 0, .int .u8 0, .int .u8 0, .int .u8 0, .int .u8 0, .int .u8 0, .int .u8 0, .int .u8 0, .int .u8 0, .int .u8 0, .int .u8 0, .int .u8 0, .int .u8 0, .int .u8 0, .int .u8 0, .int .u8 0, .int .u8 0, .int .u8 0, .int .u8 0, .int .u8 0, .int .u8 0] t)) w.heap.size (fun _ => 0) := by
  have eZ : (#[.int .u8 0, .int .u8 0, .int .u8 0, .int .u8 0, .int .u8 0, .int .u8 0, .int .u8 0, .int .u8 0, .int .u8 0, .int .u8 0, .int .u8 0, .int .u8 0, .int .u8 0, .int .u8 0, .int .u8 0, .int .u8 0, .int .u8 0, .int .u8 0, .int .u8 0, .int .u8 0, .int .u8 0, .int .u8 0, .int .u8 0, .int .u8 0, .int .u8 0, .int .u8 0, .int .u8 0, .int .u8 0, .int .u8 0, .int .u8 0, .int .u8 0, .int .u8 0, .int .u8 0, .int .u8 0, .int .u8 0, .int .u8 0, .int .u8 0, .int .u8 0, .int .u8 0, .int .u8 0, .int .u8 0, .int .u8 0, .int .u8 0, .int .u8 0, .int .u8 0, .int .u8 0, .int .u8 0, .int .u8 0, .int .u8 0, .int .u8 0, .int .u8 0, .int .u8 0, .int .u8 0, .int .u8 0, .int .u8 0, .int .u8 0, .int .u8 0, .int .u8 0, .int .u8 0, .int .u8 0, .int .u8 0, .int .u8 0, .int .u8 0, .int .u8 0] : Array Value) = madeCells #[.int .u8 0] 64 := by
    apply Array.ext'
    rw [toList_madeCells_one]
    rfl
  rw [eZ]
  have h := World.rowIs_made w (.int .u8 0) 64 t
  exact ⟨fun j hj => h.cell hj, fun j hj => h.frozen j⟩
theorem Rb.range {w : World} {b : Nat} {f : Nat → Int} {o : Nat} (h : Rb w b (fun j => f (o + j))) : w.rangeAt b 0 ((b64 f o).map fun z => Value.int .u8 z) := fun j v hv => by
  have hj : j < 64 := by
    obtain ⟨h1, _⟩ := List.getElem?_eq_some_iff.1 hv
    simpa [b64, b32] using h1
  rw [Nat.zero_add, h.c j hj, ← hv]
  by_cases h32 : j < 32
  · simp [b64, b32, h32, List.getElem?_append_left]
  · rw [List.getElem?_map, b64, List.getElem?_append_right (by rw [b32_len]; omega), b32_len]
    simp [b32, show j - 32 < 32 by omega, show o + 32 + (j - 32) = o + j by omega]
theorem Rws.own {w : World} {base gg n cap : Nat} {e : TypeId} {g : Nat → E4} (h : w.ownsRow base e 4 (.slice (some ⟨gg, 0, none⟩) n cap) n (svs n g)) : Rws w gg n g := by
  have hc : ∀ k, k < n * 4 → w.cell? ⟨gg, k, none⟩ = (svs n g)[k]? := fun k hk => h.cellAt k hk
  have hs : ∀ k d, k < n → d < 4 → (svs n g)[k * 4 + d]? = some ([Value.int .u64 (g k).x0, .int .u64 (g k).x1, .int .u64 (g k).x2, .int .u64 (g k).x3].getD d undef) := by
    intro k d hk hd
    clear hc h
    induction n with
    | zero => omega
    | succ n ih =>
      rw [svs_succ]
      by_cases hkn : k < n
      · rw [List.getElem?_append_left (by rw [svs_len]; omega)]
        exact ih hkn
      · have : k = n := by omega
        subst this
        rw [List.getElem?_append_right (by rw [svs_len]; omega), svs_len, show k * 4 + d - k * 4 = d by omega]
        obtain rfl | rfl | rfl | rfl : d = 0 ∨ d = 1 ∨ d = 2 ∨ d = 3 := by omega
        all_goals rfl
  refine ⟨fun k hk => ?_, fun k hk => ?_, fun k hk => ?_, fun k hk => ?_, fun k hk => h.frozenAt k, (h.lt gg rfl).2⟩
  · rw [hc _ (by omega)]; exact hs k 0 hk (by omega)
  · rw [hc _ (by omega)]; exact hs k 1 hk (by omega)
  · rw [hc _ (by omega)]; exact hs k 2 hk (by omega)
  · rw [hc _ (by omega)]; exact hs k 3 hk (by omega)
theorem own_keepS {w1 w2 : World} {base : Nat} {e : TypeId} {v : Value} {n : Nat} {xs : List Value} (h : w1.ownsRow base e 4 v n xs) (hb : Below w1.heap.size w1 w2) : w2.ownsRow base e 4 v n xs :=
  h.kept (row := none) ⟨hb.os, hb.tape, hb.output, hb.size, fun k hk _ => hb.block k hk⟩ (by cases v.ownBlock <;> simp)
theorem below_less {m n : Nat} {w1 w2 : World} (h : Below n w1 w2) (hm : m ≤ n) : Below m w1 w2 := ⟨h.os, h.tape, h.output, h.size, fun k hk => h.block k (by omega)⟩
theorem below_trans {n : Nat} {w1 w2 w3 : World} (h1 : Below n w1 w2) (h2 : Below n w2 w3) : Below n w1 w3 := ⟨h2.os.trans h1.os, h2.tape.trans h1.tape, h2.output.trans h1.output, Nat.le_trans h1.size h2.size, fun k hk => (h2.block k hk).trans (h1.block k hk)⟩

set_option maxRecDepth 100000 in
set_option maxHeartbeats 16000000 in
theorem rTape_in (P : Option Addr) (sb so len cap n : Nat) (f : Nat → Int) (w : World) (hP : 0 < n → P = some ⟨sb, so, none⟩) (hn : n ≤ 4096) (hl : 64 * n ≤ len) (hlen : len < 9223372036854775807) (hB : 0 < n → Bs w sb so len f) :
    Calls Tryd.prog 18 #[.slice P len cap, .int .i64 n] w fun e w' => ∃ (v : Value) (p : Option Addr) (c : Nat), e = .returned (.tuple #[v, .int .i64 0]) ∧ v = .slice p n c ∧ (0 < n → ∃ b : Nat, p = some ⟨b, 0, none⟩ ∧ w.heap.size ≤ b ∧ Rws w' b n (tp f)) ∧ Below w.heap.size w w' := by
  have HB := hidden hB
  have HP := hidden hP
  clear hP
  have nn0 : ¬ (n : Int) < 0 := by omega
  have nn1 : ¬ (4096 : Int) < (n : Int) := by omega
  have nn2 : (0 : Int) ≤ (n : Int) := by omega
  obtain ⟨q, hq⟩ : ∃ q, len / 64 = q := ⟨_, rfl⟩
  have dq : (len : Int).tdiv 64 = (q : Int) := by rw [Int.tdiv_eq_ediv_of_nonneg (by omega)]; omega
  have wq : IntKind.i64.wrap (q : Int) = (q : Int) := IntWalk.i64_in _ (by omega)
  have ll : ¬ (q : Int) < (n : Int) := by omega
  obtain ⟨i0, hi, hz0, hz1, hz2⟩ := info_parts refinfo
  have HI0 := hidden hi
  have HZ0 := hidden hz0
  have HZ1 := hidden hz1
  have HZ2 := hidden hz2
  have HL := hidden hl
  have HN := hidden hn
  have HLEN := hidden hlen
  clear hB hi hz0 hz1 hz2 hl hn hlen hq
  go_enter Tryd.func18, Tryd.ntmps18
  go_wp2_with fail
  clear dq wq ll nn0 nn1
  go_loopw [6, 7] (fun ov iv w' => ∃ i : Nat, i ≤ n ∧ iv = .int .i64 i ∧ Hid (w'.ownsRow w.heap.size 34 4 ov i (svs i (tp f))) ∧ Hid (Below w.heap.size w w')) (fun _ i _ => n - (intOf i).toNat)
  case atStart => exact ⟨0, by omega, rfl, hidden (World.ownsRow_nil _ _ _ _), hidden (Below.refl _ _)⟩
  case round =>
    obtain ⟨i, hi, rfl, how, hbl⟩ := hrel
    by_cases hin : i < n
    · obtain rfl := HP.out (by omega)
      have ii0 : (0 : Int) ≤ (i : Int) := by omega
      have ii1 : (i : Int) < (n : Int) := by omega
      have BS := hidden ((HB.out (by omega)).keep hbl.out)
      have hn := HN.out
      have hl := HL.out
      have hlen := HLEN.out
      have v1 : IntKind.i64.wrap (64 * (i : Int)) = 64 * (i : Int) := IntWalk.i64_in _ (by omega)
      generalize wr = ws at *
      go_upto_region 9 with fail
      go_cut [8] (fun vx wx => ∃ pb : Nat, vx = .pointer (some ⟨pb, 0, none⟩) ∧ ws.heap.size ≤ pb ∧ Rb wx pb (fun _ => 0) ∧ Below ws.heap.size ws wx)
      case first =>
        have R0 := hidden (Rb.new ws 64)
        have B0 := hidden (bl_alloc ws (.cells #[.int .u8 0, .int .u8 0, .int .u8 0, .int .u8 0, .int .u8 0, .int .u8 0, .int .u8 0, .int .u8 0, .int .u8 0, .int .u8 0, .int .u8 0, .int .u8 0, .int .u8 0, .int .u8 0, .int .u8 0, .int .u8 0, .int .u8 0, .int .u8 0, .int .u8 0, .int .u8 0, .int .u8 0, .int .u8 0, .int .u8 0, .int .u8 0, .int .u8 0, .int .u8 0, .int .u8 0, .int .u8 0, .int .u8 0, .int .u8 0, .int .u8 0, .int .u8 0, .int .u8 0, .int .u8 0, .int .u8 0, .int .u8 0, .int .u8 0, .int .u8 0, .int .u8 0, .int .u8 0, .int .u8 0, .int .u8 0, .int .u8 0, .int .u8 0, .int .u8 0, .int .u8 0, .int .u8 0, .int .u8 0, .int .u8 0, .int .u8 0, .int .u8 0, .int .u8 0, .int .u8 0, .int .u8 0, .int .u8 0, .int .u8 0, .int .u8 0, .int .u8 0, .int .u8 0, .int .u8 0, .int .u8 0, .int .u8 0, .int .u8 0, .int .u8 0] 64))
        clear hn hl hlen
        go_wp2_with fail
        go_meet
        exact ⟨_, rfl, Nat.le_refl _, R0.out, B0.out⟩
      case rest =>
      obtain ⟨pb, rfl, hpb, r0, b0⟩ := hcut
      have R0 := hidden r0
      have B0 := hidden b0
      clear r0 b0
      have HNL : Hid (64 * i + 64 ≤ len ∧ len < 9223372036854775807) := hidden ⟨by omega, hlen⟩
      clear hn hl hlen
      go_wp2_with fail
      go_loopw [9] (fun kv w' => ∃ k : Nat, k ≤ 64 ∧ kv = .int .i64 k ∧ Hid (Rb w' pb (fun j => if j < k then f (64 * i + j) else 0)) ∧ Hid (Below ws.heap.size ws w')) (fun k _ => 64 - (intOf k).toNat)
      case atStart => exact ⟨0, by omega, rfl, hidden ⟨fun j hj => by rw [if_neg (by omega)]; exact R0.out.c j hj, R0.out.fr⟩, B0⟩
      case round =>
        clear R0 B0
        obtain ⟨k, hk, rfl, hr, hb2⟩ := hrel
        by_cases hk64 : k < 64
        · have kk0 : (0 : Int) ≤ (k : Int) := by omega
          have kk1 : (k : Int) < 64 := by omega
          obtain ⟨nl1, nl2⟩ := HNL.out
          have v2 : IntKind.i64.wrap (64 * (i : Int) + (k : Int)) = 64 * (i : Int) + (k : Int) := IntWalk.i64_in _ (by omega)
          have s1 : (0 : Int) ≤ 64 * (i : Int) + (k : Int) := by omega
          have s2 : 64 * (i : Int) + (k : Int) < (len : Int) := by omega
          have s3 : (64 * (i : Int) + (k : Int)).toNat = 64 * i + k := by omega
          have cs := cell_keep (BS.out.c (64 * i + k) (by omega)) hb2.out
          have cr := hr.out.c k hk64
          have fr := hr.out.fr k hk64
          have NR : Hid (Rb (wr.setCell ⟨pb, k, none⟩ (.int .u8 (f (64 * i + k)))) pb (fun j => if j < k + 1 then f (64 * i + j) else 0)) := hidden ⟨fun j hj => by
            rw [(hr.out.at k hk64 (f (64 * i + k))).c j hj]
            by_cases hjk : j = k
            · subst hjk
              rw [if_pos rfl, if_pos (by omega)]
            · rw [if_neg hjk]
              by_cases hlt : j < k
              · rw [if_pos hlt, if_pos (by omega)]
              · rw [if_neg hlt, if_neg (by omega)], (hr.out.at k hk64 (f (64 * i + k))).fr⟩
          have NB : Hid (Below ws.heap.size ws (wr.setCell ⟨pb, k, none⟩ (.int .u8 (f (64 * i + k))))) := hidden (hb2.out.setCell hpb _)
          generalize f (64 * i + k) = v at *
          clear hr hb2 nl1 nl2
          go_wp2_with fail
          go_roundw
          case rel => exact ⟨k + 1, by omega, by go_num, NR, NB⟩
          case measure => simp [intOf]; omega
        · have hkk : k = 64 := by omega
          subst hkk
          rw [show ((64 : Nat) : Int) = 64 from rfl]
          have hrb : Rb wr pb (fun j => f (64 * i + j)) := ⟨fun j hj => by rw [hr.out.c j hj, if_pos hj], hr.out.fr⟩
          have hra := hrb.range
          have nl := HNL.out
          have hz : ∀ z ∈ b64 f (64 * i), 0 ≤ z ∧ z ≤ 255 := fun z hz => by
            rcases List.mem_append.1 hz with h | h
            · exact b32_in BS.out (64 * i) (by omega) z h
            · exact b32_in BS.out (64 * i + 32) (by omega) z h
          obtain ⟨X, hX⟩ : ∃ X, tp f i = X := ⟨_, rfl⟩
          have wd := hidden (fun w => fix (rWide_any (b64 f (64 * i)) w (b64_len _ _) hz) ((tp_64 f i).symm.trans hX))
          have hlc : ((b64 f (64 * i)).map fun z => Value.int .u8 z).length = 64 := by simp [b64_len]
          have hi2 : (Tryd.prog.info? 64).map (·.size) = some ((b64 f (64 * i)).map fun z => Value.int .u8 z).length := by rw [hlc]; kernel_rfl
          have hu : Tryd.prog.underlying 64 = some (.array 64 5) := by kernel_rfl
          unfold bv at wd
          generalize (b64 f (64 * i)).map (fun z => Value.int .u8 z) = cs at *
          have HRA := hidden hra
          have HI := hidden hi2
          have HU := hidden hu
          have OW := hidden (own_keepS how.out hb2.out)
          have B2 := hidden (bl_trans hbl.out hb2.out)
          have SV := hidden (svs_succ i (tp f))
          rw [hX] at SV
          have n9 := HN.out
          have w9 : IntKind.i64.wrap ((i : Int) + 1) = (i : Int) + 1 := IntWalk.i64_in _ (by omega)
          have N9 := hidden (show i + 1 ≤ 4096 by omega)
          simp only [E4.v] at wd
          clear hr hb2 hrb hra nl hz hX hlc hi2 hu how hbl BS n9
          go_upto_region 14 with fail
          go_wp2_with (refine wpList_load_mid rfl 64 _ rfl pb 0 (by rfl) cs _ HRA.out HU.out rfl HI.out ?_)
          refine (wd.out _).mono ?_
          rintro e w2 ⟨rfl, hb3⟩
          have O2 := hidden (own_keepS OW.out hb3)
          have B3 := hidden (bl_trans B2.out hb3)
          have bs := B3.out.size
          clear hb3 OW B2 HRA HI HU wd
          go_wp2_with (first | (at_builtin; refine wpList_append_moreS _ rfl _ _ 35 rfl w.heap.size 34 i0 (.agg #[.int .u64 0, .int .u64 0, .int .u64 0, .int .u64 0]) 32 (by kernel_rfl) HI0.out HZ0.out HZ1.out HZ2.out rfl _ _ _ rfl (Or.inl (O2.out.alloc _)) ⟨w2.heap.size, 0, none⟩ [.int .u64 X.x0, .int .u64 X.x1, .int .u64 X.x2, .int .u64 X.x3] rfl rfl (cells_new w2 [.int .u64 X.x0, .int .u64 X.x1, .int .u64 X.x2, .int .u64 X.x3] 34) (by simp [Value.oneCell']) (by have := N9.out; unfold maxLen; omega) (by have := N9.out; omega) (by simp; omega) ?_; intro v' w3 hown hb4; have HO := hidden hown; have HB4 := hidden (bl_trans2 B3.out hb4 (by omega)); clear hown hb4))
          go_roundw
          case rel => exact ⟨i + 1, by omega, by go_num, hidden (by rw [SV.out]; exact HO.out), HB4⟩
          case measure => simp [intOf]; omega
    · have hii : i = n := by omega
      subst hii
      have lq : ¬ (i : Int) < (i : Int) := by omega
      have RES : ∃ (p : Option Addr) (c : Nat), u6 = .slice p i c ∧ (0 < i → ∃ b : Nat, p = some ⟨b, 0, none⟩ ∧ w.heap.size ≤ b ∧ Rws wr b i (tp f)) := by
        rcases how.out.2 with ⟨h1, h2⟩ | ⟨gg, cp, cur, h1, hg, _, hnc, _, _, _⟩
        · exact ⟨none, 0, by rw [h1, h2], fun h => by omega⟩
        · have ho := how.out
          rw [h1] at ho
          exact ⟨_, cp, h1, fun _ => ⟨gg, rfl, hg, Rws.own ho⟩⟩
      obtain ⟨p, c, hv, hrw⟩ := RES
      have HV := hidden hv
      have HRW := hidden hrw
      clear how hv hrw
      go_wp2_with fail
      refine bodyPost_ret (v := .tuple #[u6, .int .i64 0]) (by simp [results, Tryd.results18, go_sem]) rfl ?_
      exact ⟨u6, rfl, p, ⟨c, HV.out⟩, HRW.out, hbl.out⟩
set_option maxRecDepth 100000 in
set_option maxHeartbeats 4000000 in
theorem Tape_arg (p : Option Addr) (len cap : Nat) (i : Int) (w : World) (hi : i < 0 ∨ 4096 < i) :
    Calls Tryd.prog 15 #[.slice p len cap, .int .i64 i] w fun e w' => e = .returned (.tuple #[.slice none 0 0, .int .i64 1]) ∧ Below w.heap.size w w' := by
  rcases hi with h | h
  · go_enter Tryd.func15, Tryd.ntmps15
    go_wp2_with fail
    refine bodyPost_ret (v := .tuple #[.slice none 0 0, .int .i64 1]) (by simp [results, Tryd.results15, go_sem]) rfl ⟨rfl, Below.refl _ _⟩
  · have h0 : ¬ i < 0 := by omega
    go_enter Tryd.func15, Tryd.ntmps15
    go_wp2_with fail
    refine bodyPost_ret (v := .tuple #[.slice none 0 0, .int .i64 1]) (by simp [results, Tryd.results15, go_sem]) rfl ⟨rfl, Below.refl _ _⟩
set_option maxRecDepth 100000 in
set_option maxHeartbeats 4000000 in
theorem rTape_arg (p : Option Addr) (len cap : Nat) (i : Int) (w : World) (hi : i < 0 ∨ 4096 < i) :
    Calls Tryd.prog 18 #[.slice p len cap, .int .i64 i] w fun e w' => e = .returned (.tuple #[.slice none 0 0, .int .i64 1]) ∧ Below w.heap.size w w' := by
  rcases hi with h | h
  · go_enter Tryd.func18, Tryd.ntmps18
    go_wp2_with fail
    refine bodyPost_ret (v := .tuple #[.slice none 0 0, .int .i64 1]) (by simp [results, Tryd.results18, go_sem]) rfl ⟨rfl, Below.refl _ _⟩
  · have h0 : ¬ i < 0 := by omega
    go_enter Tryd.func18, Tryd.ntmps18
    go_wp2_with fail
    refine bodyPost_ret (v := .tuple #[.slice none 0 0, .int .i64 1]) (by simp [results, Tryd.results18, go_sem]) rfl ⟨rfl, Below.refl _ _⟩
set_option maxRecDepth 100000 in
set_option maxHeartbeats 4000000 in
theorem Tape_short (p : Option Addr) (len cap n : Nat) (w : World) (hn : n ≤ 4096) (hl : len < 64 * n) :
    Calls Tryd.prog 15 #[.slice p len cap, .int .i64 n] w fun e w' => e = .returned (.tuple #[.slice none 0 0, .int .i64 5]) ∧ Below w.heap.size w w' := by
  have nn0 : ¬ (n : Int) < 0 := by omega
  have nn1 : ¬ (4096 : Int) < (n : Int) := by omega
  have w64 : IntKind.i64.wrap (64 * (n : Int)) = 64 * (n : Int) := IntWalk.i64_in _ (by omega)
  have ll : (len : Int) < 64 * (n : Int) := by omega
  clear hn hl
  go_enter Tryd.func15, Tryd.ntmps15
  go_wp2_with fail
  refine bodyPost_ret (v := .tuple #[.slice none 0 0, .int .i64 5]) (by simp [results, Tryd.results15, go_sem]) rfl ⟨rfl, Below.refl _ _⟩
set_option maxRecDepth 100000 in
set_option maxHeartbeats 4000000 in
theorem rTape_short (p : Option Addr) (len cap n : Nat) (w : World) (hn : n ≤ 4096) (hl : len < 64 * n) :
    Calls Tryd.prog 18 #[.slice p len cap, .int .i64 n] w fun e w' => e = .returned (.tuple #[.slice none 0 0, .int .i64 5]) ∧ Below w.heap.size w w' := by
  have nn0 : ¬ (n : Int) < 0 := by omega
  have nn1 : ¬ (4096 : Int) < (n : Int) := by omega
  obtain ⟨q, hq⟩ : ∃ q, len / 64 = q := ⟨_, rfl⟩
  have dq : (len : Int).tdiv 64 = (q : Int) := by rw [Int.tdiv_eq_ediv_of_nonneg (by omega)]; omega
  have wq : IntKind.i64.wrap (q : Int) = (q : Int) := IntWalk.i64_in _ (by omega)
  have ll : (q : Int) < (n : Int) := by omega
  clear hn hl hq
  go_enter Tryd.func18, Tryd.ntmps18
  go_wp2_with fail
  refine bodyPost_ret (v := .tuple #[.slice none 0 0, .int .i64 5]) (by simp [results, Tryd.results18, go_sem]) rfl ⟨rfl, Below.refl _ _⟩
end Go.Proofs.YtpblcnefihhhoaaDoor
