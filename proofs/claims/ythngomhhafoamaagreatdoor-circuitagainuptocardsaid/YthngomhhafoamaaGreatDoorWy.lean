import Derived.Test.YthngomhhafoamaaGreatDoorTb
import Derived.Lib.SliceRun
namespace Go.Proofs.YthngomhhafoamaaGreatDoor.Tr
open Go.RowKit
theorem sb_list (l : List UInt8) : (sb l).toList = l := by
 rw [ByteArray.toList_eq]
 simp [sb]
theorem own_stay {w w' : World} {base size n : Nat} {e : TypeId} {v : Value} {xs : List Value} (h : w.ownsRow base e size v n xs) (hb : Below w.heap.size w w') : w'.ownsRow base e size v n xs := by
 refine ⟨h.1, ?_⟩
 rcases h.2 with hn | ⟨g, cap, cur, rfl, hbg, hgg, rest⟩
 ·exact .inl hn
 ·refine .inr ⟨g, cap, cur, rfl, hbg, ?_, rest⟩
  rw [hb.block g (Array.getElem?_eq_some_iff.1 hgg).1]
  exact hgg
theorem own_shape {w : World} {base n : Nat} {e : TypeId} {v : Value} {xs : List Value} (h : w.ownsRow base e 1 v n xs) : ∃ (P : Option Addr) (c : Nat), v = .slice P n c ∧ n ≤ c := by
 rcases h.2 with ⟨rfl, rfl⟩ | ⟨g, cap, cur, rfl, _, _, hnc, _⟩
 ·exact ⟨none, 0, rfl, Nat.le_refl _⟩
 ·exact ⟨_, _, rfl, hnc⟩
theorem own_byQ {w : World} {base c n : Nat} {P : Option Addr} {bs : List UInt8} (h : w.ownsRow base 5 1 (.slice P n c) n (cb bs)) : By w P c bs := by
 rcases h.2 with ⟨hv, h0⟩ | ⟨g, cap, cur, hv, _⟩
 ·simp only [Value.slice.injEq] at hv
  obtain ⟨rfl, rfl, rfl⟩ := hv
  have : bs = [] := List.eq_nil_of_length_eq_zero (by have := h.1; rw [cb_len] at this; omega)
  subst this
  exact ⟨fun _ => ⟨rfl, rfl⟩, fun a ha => (by cases ha)⟩
 ·simp only [Value.slice.injEq] at hv
  obtain ⟨rfl, _, rfl⟩ := hv
  exact ⟨fun h => (by cases h), fun a ha => by obtain rfl := Option.some.inj ha; exact h.cells rfl⟩
theorem By.front {w : World} {P : Option Addr} {c : Nat} {a b : List UInt8} (h : By w P c (a ++ b)) : By w P c a :=
 ⟨fun e => ⟨(List.append_eq_nil_iff.1 (h.nil e).1).1, (h.nil e).2⟩, fun x hx j u hu => h.lie x hx j u (by
  rw [cb_app, List.getElem?_append_left (List.getElem?_eq_some_iff.1 hu).1]
  exact hu)⟩
theorem by_list (w : World) (l : List UInt8) (c : Nat) : By (w.alloc (.cells (cb l).toArray 5)) (some ⟨w.heap.size, 0, none⟩) c l :=
 ⟨fun h => (by cases h), fun a ha => by obtain rfl := Option.some.inj ha; exact cells_new w (cb l) _⟩
theorem by_none (w : World) : By w none 0 [] := ⟨fun _ => ⟨rfl, rfl⟩, fun a ha => (by cases ha)⟩
theorem By.at {w : World} {b o c : Nat} {bs : List UInt8} (h : By w (some ⟨b, o, none⟩) c bs) (k : Nat) (hk : k < bs.length) : w.cell? ⟨b, o + k, none⟩ = some (.int .u8 ((bs.getD k 0).toNat : Int)) := by
 have := h.lie _ rfl k _ (cb_at bs k hk)
 rw [Addr.add_lit] at this
 simpa [List.getElem?_eq_getElem hk] using this
theorem By.none' {w : World} {P : Option Addr} {c : Nat} {bs : List UInt8} (h : By w P c bs) (hb : 0 < bs.length) : ∃ b o : Nat, P = some ⟨b, o, none⟩ := by
 cases P with
 | none => have := (h.nil rfl).1; subst this; simp at hb
 | some a =>
  obtain ⟨b, o, s⟩ := a
  have := h.lie _ rfl 0 _ (cb_at bs 0 hb)
  have hs : s = none := by simpa [Addr.add] using World.cell?_spot this
  subst hs
  exact ⟨b, o, rfl⟩
set_option maxRecDepth 100000 in
set_option maxHeartbeats 4000000 in
theorem clone_any (P : Option Addr) (c : Nat) (bs : List UInt8) (w : World) (hB : By w P c bs) (hl : bs.length ≤ 140737488355328) :
  Calls Tryz.prog 65 #[.slice P bs.length c] w fun e w' => ∃ v, e = .returned v ∧ w'.ownsRow w.heap.size 5 1 v bs.length (cb bs) ∧ Below w.heap.size w w' := by
 have eqn := fun (a : Option Addr) (l c : Nat) (w : World) => Lib.run_eql_slice_nil (P := Tryz.prog) w 44 5 a l c 0 0 (by kernel_rfl)
 have HL := Hn hl
 cases P with
 | none =>
  obtain ⟨rfl, rfl⟩ := hB.nil rfl
  clear hB hl
  go_enter Tryz.func65, Tryz.ntmps65
  go_wp2_with fail
  refine bodyPost_ret (v := .slice none 0 0) (by simp [results, Tryz.results65, go_sem]) rfl ⟨_, rfl, World.ownsRow_nil _ _ _ _, Below.refl _ _⟩
 | some ad =>
  have O0 := Hn (World.ownsRow_made (base := w.heap.size) (e := 5) (size := 1) w #[] 0 (Nat.le_refl _) (by unfold maxLen; omega) rfl)
  have B0 := Hn (bl_alloc w (.cells #[] 5))
  have HY := Hn (hB.keep (bl_alloc w (.cells #[] 5)))
  clear hB hl
  go_enter Tryz.func65, Tryz.ntmps65
  go_wp2_with (first | (at_builtin; refine wpList_app_by rfl _ _ rfl w.heap.size _ [] bs (some ad) c rfl rfl O0.out HY.out (by have := HL.out; simp only [List.length_nil]; omega) B0.out.size ?_; intro v2 w2 ho2 hg2; have HO := Hn ho2; have HB := Hn (below_trans B0.out (below_grown hg2 B0.out.size (fun k hk => (O0.out.lt k hk).1))); clear ho2 hg2; rw [List.nil_append] at HO))
  refine bodyPost_ret (v := v2) (by simp [results, Tryz.results65, go_sem]) rfl ⟨_, rfl, HO.out, HB.out⟩
def mk3 : List UInt8 := [201, 202, 203]
end Go.Proofs.YthngomhhafoamaaGreatDoor.Tr
namespace Go.Proofs.YthngomhhafoamaaGreatDoor.Tr
def vf : Nat → Nat → List UInt8
 | 0, n => [UInt8.ofNat n]
 | k + 1, n => if n < 128 then [UInt8.ofNat n] else UInt8.ofNat (n % 128 + 128) :: vf k (n / 128)
def vn (n : Nat) : List UInt8 := vf 9 n
theorem vf_small (k n : Nat) (h : n < 128) : vf k n = [UInt8.ofNat n] := by
 cases k with
 | zero => rfl
 | succ k => simp [vf, h]
theorem vf_big (k n : Nat) (h : ¬ n < 128) : vf (k + 1) n = UInt8.ofNat (n % 128 + 128) :: vf k (n / 128) := by simp [vf, h]
theorem vf_len : ∀ k n, 1 ≤ (vf k n).length ∧ (vf k n).length ≤ k + 1
 | 0, n => by simp [vf]
 | k + 1, n => by
  have := vf_len k (n / 128)
  unfold vf
  split
  ·simp
  ·simp only [List.length_cons]; omega
theorem vn_len (n : Nat) : 1 ≤ (vn n).length ∧ (vn n).length ≤ 10 := vf_len 9 n
def rd : Nat → Nat → List UInt8 → Nat × Nat × Nat
 | _, _, [] => (0, 0, 100)
 | i, acc, c :: r =>
  if i = 9 ∧ 1 < c.toNat then (0, 0, 102)
  else if 128 ≤ c.toNat then rd (i + 1) (acc + (c.toNat - 128) * 2 ^ (7 * i)) r
  else if c.toNat = 0 ∧ 0 < i then (0, 0, 102)
  else (acc + c.toNat * 2 ^ (7 * i), i + 1, 0)
def nm (bs : List UInt8) (most : Nat) : Nat × Nat × Nat :=
 let x := rd 0 0 bs
 if x.2.2 = 0 ∧ most < x.1 then (0, 0, 102) else x
theorem rd_end : ∀ (bs : List UInt8) (i acc : Nat), (rd i acc bs).2.2 = 100 → i ≤ 9 → (∀ c ∈ bs, 128 ≤ c.toNat) ∧ bs.length + i ≤ 9
 | [], i, acc, _, hi => ⟨by simp, by simpa using hi⟩
 | c :: r, i, acc, h, hi => by
  unfold rd at h
  split at h
  ·simp at h
  ·split at h
   ·rename_i h1 h2
    have hi9 : i ≠ 9 := fun e => h1 ⟨e, by omega⟩
    have := rd_end r (i + 1) _ h (by omega)
    refine ⟨fun x hx => ?_, by simp only [List.length_cons]; omega⟩
    rcases List.mem_cons.1 hx with rfl | hx
    ·exact h2
    ·exact this.1 x hx
   ·split at h <;> simp at h
theorem rd_fault : ∀ (bs : List UInt8) (i acc : Nat), (rd i acc bs).2.2 ≠ 0 → (rd i acc bs).1 = 0 ∧ (rd i acc bs).2.1 = 0 ∧ ((rd i acc bs).2.2 = 100 ∨ (rd i acc bs).2.2 = 102)
 | [], i, acc, _ => by simp [rd]
 | c :: r, i, acc, h => by
  unfold rd at h ⊢
  split
  ·simp
  ·rename_i h1
   rw [if_neg h1] at h
   split
   ·rename_i h2
    rw [if_pos h2] at h
    exact rd_fault r _ _ h
   ·rename_i h2
    rw [if_neg h2] at h
    split
    ·simp
    ·rename_i h3
     rw [if_neg h3] at h
     simp at h
theorem ofNat_toNat (c : UInt8) : UInt8.ofNat c.toNat = c := by simp
theorem rd_ok : ∀ (bs : List UInt8) (i acc : Nat), (rd i acc bs).2.2 = 0 → i ≤ 9 → acc < 2 ^ (7 * i) →
  ∃ m k, (rd i acc bs).1 = acc + m * 2 ^ (7 * i) ∧ (rd i acc bs).2.1 = i + k ∧ k ≤ bs.length ∧ bs.take k = vf (9 - i) m ∧ m < 2 ^ (64 - 7 * i) ∧ (0 < i → 0 < m)
 | [], i, acc, h, _, _ => by simp [rd] at h
 | c :: r, i, acc, h, hi, ha => by
  have hc := c.toNat_lt
  unfold rd at h ⊢
  split
  ·rename_i h1
   rw [if_pos h1] at h
   simp at h
  ·rename_i h1
   rw [if_neg h1] at h
   split
   ·rename_i h2
    rw [if_pos h2] at h
    have hi9 : i ≠ 9 := fun e => h1 ⟨e, by omega⟩
    have hp : 2 ^ (7 * (i + 1)) = 2 ^ (7 * i) * 128 := by rw [Nat.mul_add, Nat.pow_add]
    have hpos : 0 < 2 ^ (7 * i) := Nat.two_pow_pos _
    have hlt : acc + (c.toNat - 128) * 2 ^ (7 * i) < 2 ^ (7 * (i + 1)) := by
     rw [hp]
     have : (c.toNat - 128) * 2 ^ (7 * i) ≤ 127 * 2 ^ (7 * i) := Nat.mul_le_mul_right _ (by omega)
     omega
    obtain ⟨m, k, e1, e2, e3, e4, e5, e6⟩ := rd_ok r (i + 1) _ h (by omega) hlt
    have e6 := e6 (by omega)
    have h64 : 2 ^ (64 - 7 * i) = 128 * 2 ^ (64 - 7 * (i + 1)) := by
     rw [show 64 - 7 * i = 7 + (64 - 7 * (i + 1)) by omega, Nat.pow_add]
    refine ⟨c.toNat - 128 + 128 * m, k + 1, ?_, by omega, by simp; omega, ?_, by omega, fun _ => by omega⟩
    ·rw [e1, hp, Nat.add_mul]
     have : m * (2 ^ (7 * i) * 128) = 128 * m * 2 ^ (7 * i) := by rw [Nat.mul_comm (2 ^ (7 * i)) 128, ← Nat.mul_assoc, Nat.mul_comm m 128]
     omega
    ·rw [List.take_succ_cons, e4, show 9 - i = (9 - (i + 1)) + 1 by omega, vf_big _ _ (by omega)]
     congr 1
     ·rw [show (c.toNat - 128 + 128 * m) % 128 + 128 = c.toNat by omega, ofNat_toNat]
     ·rw [show (c.toNat - 128 + 128 * m) / 128 = m by omega]
   ·rename_i h2
    rw [if_neg h2] at h
    split
    ·rename_i h3
     rw [if_pos h3] at h
     simp at h
    ·rename_i h3
     refine ⟨c.toNat, 1, rfl, rfl, by simp, ?_, ?_, fun h => by omega⟩
     ·rw [vf_small _ _ (by omega), ofNat_toNat]
      simp
     ·by_cases e : i = 9
      ·subst e
       have : ¬ 1 < c.toNat := fun h => h1 ⟨rfl, h⟩
       simp
       omega
      ·have : 2 ^ 8 ≤ 2 ^ (64 - 7 * i) := Nat.pow_le_pow_right (by omega) (by omega)
       omega
theorem rd_all : ∀ (j m i acc : Nat) (r : List UInt8), i + j = 9 → m < 2 ^ (64 - 7 * i) → (0 < i → 0 < m) → rd i acc (vf j m ++ r) = (acc + m * 2 ^ (7 * i), i + (vf j m).length, 0)
 | 0, m, i, acc, r, hi, hm, h0 => by
  obtain rfl : i = 9 := by omega
  have hm2 : m < 2 := by simpa using hm
  have e : (UInt8.ofNat m).toNat = m := by rw [UInt8.toNat_ofNat']; omega
  have := h0 (by omega)
  simp only [vf, List.cons_append, List.nil_append]
  unfold rd
  rw [e, if_neg (by omega), if_neg (by omega), if_neg (by omega)]
  simp
 | j + 1, m, i, acc, r, hi, hm, h0 => by
  by_cases hs : m < 128
  ·have e : (UInt8.ofNat m).toNat = m := by rw [UInt8.toNat_ofNat']; omega
   rw [vf_small _ _ hs]
   simp only [List.cons_append, List.nil_append]
   unfold rd
   rw [e, if_neg (by omega), if_neg (by omega), if_neg (by omega)]
   simp
  ·have e : (UInt8.ofNat (m % 128 + 128)).toNat = m % 128 + 128 := by rw [UInt8.toNat_ofNat']; omega
   rw [vf_big _ _ hs]
   simp only [List.cons_append]
   unfold rd
   rw [e, if_neg (by omega), if_pos (by omega)]
   have h64 : 2 ^ (64 - 7 * i) = 128 * 2 ^ (64 - 7 * (i + 1)) := by
    rw [show 64 - 7 * i = 7 + (64 - 7 * (i + 1)) by omega, Nat.pow_add]
   rw [rd_all j (m / 128) (i + 1) _ r (by omega) (by omega) (fun _ => by omega)]
   have hp : 2 ^ (7 * (i + 1)) = 2 ^ (7 * i) * 128 := by rw [Nat.mul_add, Nat.pow_add]
   have e2 : m / 128 * (2 ^ (7 * i) * 128) = 128 * (m / 128) * 2 ^ (7 * i) := by rw [Nat.mul_comm (2 ^ (7 * i)) 128, ← Nat.mul_assoc, Nat.mul_comm (m / 128) 128]
   have e3 : m * 2 ^ (7 * i) = (m % 128) * 2 ^ (7 * i) + 128 * (m / 128) * 2 ^ (7 * i) := by rw [← Nat.add_mul, Nat.mod_add_div]
   simp only [List.length_cons, hp, e2, Prod.mk.injEq, Nat.add_sub_cancel, and_true]
   omega
theorem rd_cut : ∀ (j m i acc k : Nat), i + j = 9 → k < (vf j m).length → rd i acc ((vf j m).take k) = (0, 0, 100)
 | 0, m, i, acc, k, hi, hk => by
  simp only [vf, List.length_cons, List.length_nil] at hk
  obtain rfl : k = 0 := by omega
  simp [rd]
 | j + 1, m, i, acc, 0, hi, hk => by simp [rd]
 | j + 1, m, i, acc, k + 1, hi, hk => by
  by_cases hs : m < 128
  ·rw [vf_small _ _ hs] at hk
   simp at hk
  ·have e : (UInt8.ofNat (m % 128 + 128)).toNat = m % 128 + 128 := by rw [UInt8.toNat_ofNat']; omega
   rw [vf_big _ _ hs] at hk ⊢
   simp only [List.length_cons] at hk
   rw [List.take_succ_cons]
   unfold rd
   rw [e, if_neg (by omega), if_pos (by omega)]
   exact rd_cut j (m / 128) (i + 1) _ k (by omega) (by omega)
theorem nm_all (n most : Nat) (r : List UInt8) (h : n < 2 ^ 64) (hm : n ≤ most) : nm (vn n ++ r) most = (n, (vn n).length, 0) := by
 have := rd_all 9 n 0 0 r rfl (by simpa using h) (by omega)
 unfold nm vn
 rw [this]
 simp
 omega
theorem nm_ok (bs : List UInt8) (most : Nat) (h : (nm bs most).2.2 = 0) : (nm bs most).1 < 2 ^ 64 ∧ (nm bs most).1 ≤ most ∧ (nm bs most).2.1 ≤ bs.length ∧ bs.take (nm bs most).2.1 = vn (nm bs most).1 ∧ 1 ≤ (nm bs most).2.1 ∧ rd 0 0 bs = nm bs most := by
 unfold nm at h ⊢
 dsimp only at h ⊢
 split at h
 ·simp at h
 ·rename_i h1
  rw [if_neg h1]
  obtain ⟨m, k, e1, e2, e3, e4, e5, _⟩ := rd_ok bs 0 0 h (by omega) (by simp)
  simp only [Nat.mul_zero, Nat.pow_zero, Nat.mul_one, Nat.zero_add, Nat.sub_zero] at e1 e2 e4 e5
  rw [e1] at h1 ⊢
  rw [e2]
  refine ⟨e5, by omega, e3, e4, ?_, rfl⟩
  have := (vf_len 9 m).1
  rw [← e4, List.length_take] at this
  omega
theorem nm_fault (bs : List UInt8) (most : Nat) (h : (nm bs most).2.2 ≠ 0) : (nm bs most).1 = 0 ∧ (nm bs most).2.1 = 0 ∧ ((nm bs most).2.2 = 100 ∨ (nm bs most).2.2 = 102) := by
 unfold nm at h ⊢
 dsimp only at h ⊢
 split at h
 ·rename_i h1
  rw [if_pos h1]
  simp
 ·rename_i h1
  rw [if_neg h1]
  exact rd_fault bs 0 0 h
end Go.Proofs.YthngomhhafoamaaGreatDoor.Tr
namespace Go.Proofs.YthngomhhafoamaaGreatDoor.Tr
open Go.RowKit
theorem or_high (m : Nat) : (m % 256) ||| 128 = (UInt8.ofNat (m % 128 + 128)).toNat := by
 rw [UInt8.toNat_ofNat']
 have h1 : m % 256 = (m / 128 % 2) * 128 + m % 128 := by omega
 have h2 : (m % 256) ||| 128 = m % 128 + 128 := by
  rcases Nat.mod_two_eq_zero_or_one (m / 128) with h | h
  ·have e : m % 256 = m % 128 := by omega
   rw [e, Nat.or_comm, ← Nat.two_pow_add_eq_or_of_lt (i := 7) (b := m % 128) (by omega) 1]
   omega
  ·have e : m % 256 = 128 + m % 128 := by omega
   have e2 := Nat.two_pow_add_eq_or_of_lt (i := 7) (b := m % 128) (by omega) 1
   simp only [Nat.reducePow, Nat.mul_one] at e2
   rw [e, e2, Nat.or_comm, ← Nat.or_assoc, Nat.or_self, ← e2]
   omega
 rw [h2]
 omega
theorem u8_or (a b : Nat) (ha : a < 256) (hb : b < 256) : IntKind.u8.wrap ((BitVec.ofInt IntKind.u8.bits (a : Int) ||| BitVec.ofInt IntKind.u8.bits (b : Int)).toNat : Int) = ((a ||| b : Nat) : Int) := by
 have h1 : ∀ x : Nat, x < 256 → (BitVec.ofInt IntKind.u8.bits (x : Int)).toNat = x := fun x hx => by
  show (BitVec.ofInt 8 (x : Int)).toNat = x
  rw [BitVec.toNat_ofInt]
  omega
 have h2 : a ||| b < 2 ^ 8 := Nat.or_lt_two_pow (by omega) (by omega)
 rw [BitVec.toNat_or, h1 a ha, h1 b hb, IntKind.wrap_u8]
 omega
theorem u64_or (a b : Nat) (ha : a < 2 ^ 64) (hb : b < 2 ^ 64) : IntKind.u64.wrap ((BitVec.ofInt IntKind.u64.bits (a : Int) ||| BitVec.ofInt IntKind.u64.bits (b : Int)).toNat : Int) = ((a ||| b : Nat) : Int) := by
 have h1 : ∀ x : Nat, x < 2 ^ 64 → (BitVec.ofInt IntKind.u64.bits (x : Int)).toNat = x := fun x hx => by
  show (BitVec.ofInt 64 (x : Int)).toNat = x
  rw [BitVec.toNat_ofInt]
  omega
 have h2 : a ||| b < 2 ^ 64 := Nat.or_lt_two_pow (by omega) (by omega)
 rw [BitVec.toNat_or, h1 a ha, h1 b hb, IntKind.wrap_u64]
 omega
theorem or_high' (m : Nat) : bits .or .u8 ((m : Int) % 256) 128 = ((UInt8.ofNat (m % 128 + 128)).toNat : Int) := by
 rw [← or_high m, ← u8_or (m % 256) 128 (by omega) (by omega)]
 rfl
set_option maxRecDepth 100000 in
set_option maxHeartbeats 8000000 in
theorem appNum_any (P : Option Addr) (c : Nat) (bs : List UInt8) (n : Nat) (w : World) (hB : By w P c bs) (hl : bs.length ≤ 140737488355000) (hn : n < 2 ^ 64) :
  Calls Tryz.prog 64 #[.slice P bs.length c, .int .u64 (n : Int)] w fun e w' => ∃ v, e = .returned v ∧ w'.ownsRow w.heap.size 5 1 v (bs ++ vn n).length (cb (bs ++ vn n)) ∧ Below w.heap.size w w' := by
 have HC := Hn (clone_any P c bs w hB (by omega))
 have HL := Hn hl
 have HN := Hn hn
 clear hB hl hn
 go_enter Tryz.func64, Tryz.ntmps64
 go_upto_region 2 with (first | (go_at_call 65; refine HC.out.mono ?_; rintro e w1 ⟨v1, rfl, ho, hb⟩; have HO := Hn ho; have HB := Hn hb; clear ho hb))
 clear HC
 go_loopw [0, 1] (fun vv mv w' => ∃ (k m : Nat) (D : List UInt8), k ≤ 9 ∧ mv = .int .u64 (m : Int) ∧ Hid (D.length = k ∧ vn n = D ++ vf (9 - k) m ∧ m < 2 ^ (64 - 7 * k)) ∧ Hid (w'.ownsRow w.heap.size 5 1 vv (bs ++ D).length (cb (bs ++ D))) ∧ Hid (Below w.heap.size w w')) (fun _ m _ => (intOf m).toNat)
 case atStart => exact ⟨0, n, [], by omega, rfl, Hn ⟨rfl, rfl, by simpa using HN.out⟩, by simpa using HO, HB⟩
 case round =>
  clear HO HB
  obtain ⟨k, m, D, hk, rfl, hM, HO, HB⟩ := hrel
  by_cases hm : m < 128
  ·obtain ⟨y, rfl⟩ : ∃ y : UInt8, m = y.toNat := ⟨UInt8.ofNat m, by rw [UInt8.toNat_ofNat']; omega⟩
   have k0 : ¬ (128 : Int) ≤ (y.toNat : Int) := by omega
   have HE : Hid (vn n = D ++ [y]) := Hn (by rw [hM.out.2.1, vf_small _ _ hm, ofNat_toNat])
   have HD : Hid (D.length ≤ 9) := Hn (by have := hM.out.1; omega)
   clear hM
   go_wp2_with (first | (at_builtin; refine wpList_app_by rfl _ _ rfl w.heap.size _ (bs ++ D) [y] (some ⟨wr.heap.size, 0, none⟩) 1 rfl rfl (own_stay HO.out (bl_alloc wr _)) (by_list wr [y] 1) (by have := HL.out; have := HD.out; simp only [List.length_append, List.length_cons, List.length_nil]; omega) (by have := HB.out.size; simp; omega) ?_; intro v1 w1 ho1 hg1; have HO1 := Hn ho1; have HB1 := Hn (below_trans (bl_trans HB.out (bl_alloc wr _)) (below_grown hg1 (by have := HB.out.size; simp; omega) (fun j hj => (HO.out.lt j hj).1))); clear ho1 hg1))
   refine bodyPost_ret (v := v1) (by simp [results, Tryz.results64, go_sem]) rfl ⟨_, rfl, by have h := HO1.out; rw [List.append_assoc, ← HE.out] at h; first | exact h | (rw [List.length_append] at h; exact h), HB1.out⟩
  ·have k0 : (128 : Int) ≤ (m : Int) := by omega
   have hk9 : k < 9 := by
    have := hM.out.2.2
    by_cases e : k = 9
    ·subst e; simp at this; omega
    ·omega
   have hi := or_high' m
   have HE : Hid (vn n = D ++ [UInt8.ofNat (m % 128 + 128)] ++ vf (9 - (k + 1)) (m / 128)) := Hn (by rw [hM.out.2.1, show 9 - k = (9 - (k + 1)) + 1 by omega, vf_big _ _ hm]; simp)
   have HD : Hid (D.length = k ∧ m / 128 < 2 ^ (64 - 7 * (k + 1))) := Hn (by
    have h64 : 2 ^ (64 - 7 * k) = 128 * 2 ^ (64 - 7 * (k + 1)) := by
     rw [show 64 - 7 * k = 7 + (64 - 7 * (k + 1)) by omega, Nat.pow_add]
    have := hM.out.2.2
    exact ⟨hM.out.1, by omega⟩)
   generalize UInt8.ofNat (m % 128 + 128) = y at hi HE
   clear hM
   go_wp2_with (first | (at_builtin; refine wpList_app_by rfl _ _ rfl w.heap.size _ (bs ++ D) [y] (some ⟨wr.heap.size, 0, none⟩) 1 rfl rfl (own_stay HO.out (bl_alloc wr _)) (by_list wr [y] 1) (by have := HL.out; have := HD.out.1; simp only [List.length_append, List.length_cons, List.length_nil]; omega) (by have := HB.out.size; simp; omega) ?_; intro v1 w1 ho1 hg1; have HO1 := Hn ho1; have HB1 := Hn (below_trans (bl_trans HB.out (bl_alloc wr _)) (below_grown hg1 (by have := HB.out.size; simp; omega) (fun j hj => (HO.out.lt j hj).1))); clear ho1 hg1))
   go_roundw
   case rel => exact ⟨k + 1, m / 128, D ++ [y], by omega, by go_num, Hn ⟨by have := HD.out.1; simp; omega, HE.out, HD.out.2⟩, by rw [← List.append_assoc]; exact HO1, HB1⟩
   case measure => simp [intOf]; omega
end Go.Proofs.YthngomhhafoamaaGreatDoor.Tr
