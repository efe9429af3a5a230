import Derived.Test.YthngomhhafoamaaGreatDoorWy
import Derived.Laws.Small
import Derived.ScopeJumps
import Derived.WalkMore
set_option maxRecDepth 100000
set_option maxHeartbeats 4000000
namespace Go.Proofs.YthngomhhafoamaaGreatDoor.Tr
open Go.RowKit
structure Kp (g : Nat) (w w' : World) : Prop where
 os : w'.os = w.os
 tape : w'.tape = w.tape
 output : w'.output = w.output
 size : w.heap.size ≤ w'.heap.size
 block : ∀ k, k < w.heap.size → k ≠ g → w'.heap[k]? = w.heap[k]?
theorem Kp.refl (g : Nat) (w : World) : Kp g w w := ⟨rfl, rfl, rfl, Nat.le_refl _, fun _ _ _ => rfl⟩
theorem Kp.of {g : Nat} {w w' : World} (h : Below w.heap.size w w') : Kp g w w' := ⟨h.os, h.tape, h.output, h.size, fun k hk _ => h.block k hk⟩
theorem Kp.grown {g : Nat} {w w' : World} (h : w.grownBy w' (some g)) : Kp g w w' := ⟨h.os, h.tape, h.output, h.size, fun k hk hne => h.block k hk (fun e => hne (Option.some.inj e))⟩
theorem Kp.trans {g : Nat} {w w1 w2 : World} (h : Kp g w w1) (k : Kp g w1 w2) : Kp g w w2 := ⟨k.os.trans h.os, k.tape.trans h.tape, k.output.trans h.output, Nat.le_trans h.size k.size, fun j hj hne => (k.block j (Nat.lt_of_lt_of_le hj h.size) hne).trans (h.block j hj hne)⟩
theorem Kp.below {g base : Nat} {w w' : World} (h : Kp g w w') (hb : base ≤ g) (hs : base ≤ w.heap.size) : Below base w w' := ⟨h.os, h.tape, h.output, h.size, fun k hk => h.block k (by omega) (by omega)⟩
theorem Kp.by {g b o c : Nat} {w w' : World} {bs : List UInt8} (h : Kp g w w') (hy : By w (some ⟨b, o, none⟩) c bs) (hb : b < w.heap.size) (hne : b ≠ g) : By w' (some ⟨b, o, none⟩) c bs :=
 ⟨hy.nil, fun a ha j u hu => by
  have := hy.lie a ha j u hu
  obtain rfl := Option.some.inj ha
  rw [← this]
  exact World.cell?_of_block (by rw [show ((⟨b, o, none⟩ : Addr).add j).block = b by unfold Addr.add; split <;> rfl]; exact h.block b hb hne)⟩
theorem Kp.own {g base size n : Nat} {w w' : World} {e : TypeId} {v : Value} {xs : List Value} (h : Kp g w w') (ho : w.ownsRow base e size v n xs) (hne : v.ownBlock ≠ some g) : w'.ownsRow base e size v n xs := by
 refine ⟨ho.1, ?_⟩
 rcases ho.2 with hn | ⟨k, cap, cur, rfl, hbg, hgg, rest⟩
 ·exact .inl hn
 ·refine .inr ⟨k, cap, cur, rfl, hbg, ?_, rest⟩
  rw [h.block k (Array.getElem?_eq_some_iff.1 hgg).1 (fun e => hne (by rw [e]; rfl))]
  exact hgg
theorem Kp.by' {g c : Nat} {P : Option Addr} {w w' : World} {bs : List UInt8} (h : Kp g w w') (hy : By w P c bs) (hf : ∀ a, P = some a → a.block ≠ g ∧ a.block < w.heap.size) : By w' P c bs :=
 ⟨hy.nil, fun a ha j u hu => by
  have := hy.lie a ha j u hu
  obtain ⟨h1, h2⟩ := hf a ha
  rw [← this]
  exact World.cell?_of_block (by rw [show (a.add j).block = a.block by unfold Addr.add; split <;> rfl]; exact h.block _ h2 h1)⟩
structure Rd (w : World) (g : Nat) (P : Option Addr) (c : Nat) (bs : List UInt8) (e : Int) : Prop where
 at' : w.heap[g]? = some (.cells #[.slice P bs.length c, .int .i64 e, .bool true] 107 (0, 0))
 by' : By w P c bs
 fr : ∀ a, P = some a → a.block ≠ g ∧ a.block < w.heap.size
 cap : bs.length ≤ c
theorem Rd.c0 {w : World} {g c : Nat} {P : Option Addr} {bs : List UInt8} {e : Int} (h : Rd w g P c bs e) : w.cell? ⟨g, 0, none⟩ = some (.slice P bs.length c) := by rw [cell_of_row w g 0 _ _ (0, 0) h.at']; rfl
theorem Rd.c1 {w : World} {g c : Nat} {P : Option Addr} {bs : List UInt8} {e : Int} (h : Rd w g P c bs e) : w.cell? ⟨g, 1, none⟩ = some (.int .i64 e) := by rw [cell_of_row w g 1 _ _ (0, 0) h.at']; rfl
theorem Rd.c2 {w : World} {g c : Nat} {P : Option Addr} {bs : List UInt8} {e : Int} (h : Rd w g P c bs e) : w.cell? ⟨g, 2, none⟩ = some (.bool true) := by rw [cell_of_row w g 2 _ _ (0, 0) h.at']; rfl
theorem Rd.f {w : World} {g c : Nat} {P : Option Addr} {bs : List UInt8} {e : Int} (h : Rd w g P c bs e) (j : Nat) : w.frozen? ⟨g, j, none⟩ = false := frozen_of_row w g j _ _ h.at'
theorem Rd.glt {w : World} {g c : Nat} {P : Option Addr} {bs : List UInt8} {e : Int} (h : Rd w g P c bs e) : g < w.heap.size := (Array.getElem?_eq_some_iff.1 h.at').1
theorem Rd.keep {w w' : World} {g c : Nat} {P : Option Addr} {bs : List UInt8} {e : Int} (h : Rd w g P c bs e) (hb : Below w.heap.size w w') : Rd w' g P c bs e :=
 ⟨(hb.block g h.glt).trans h.at', h.by'.keep hb, fun a ha => ⟨(h.fr a ha).1, Nat.lt_of_lt_of_le (h.fr a ha).2 hb.size⟩, h.cap⟩
theorem grown_set (w : World) (g j : Nat) (u : Value) : w.grownBy (w.setCell ⟨g, j, none⟩ u) (some g) :=
 ⟨rfl, rfl, rfl, by simp, fun k _ hk => Go.heap_setCell_other _ _ _ _ (fun e => hk (by rw [e]))⟩
theorem Rd.fail {w : World} {g c : Nat} {P : Option Addr} {bs : List UInt8} {e : Int} (h : Rd w g P c bs e) (e' : Int) : Rd (w.setCell ⟨g, 1, none⟩ (.int .i64 e')) g P c bs e' :=
 ⟨by rw [heap_setCell_same w g 1 _ _ _ h.at']; rfl, (Kp.grown (grown_set w g 1 _)).by' h.by' h.fr, fun a ha => ⟨(h.fr a ha).1, by simpa using (h.fr a ha).2⟩, h.cap⟩
theorem By.drop {w : World} {b o c : Nat} {bs : List UInt8} (h : By w (some ⟨b, o, none⟩) c bs) (k d : Nat) : By w (some ⟨b, o + k, none⟩) d (bs.drop k) :=
 ⟨fun e => (by cases e), fun a ha j u hu => by
  obtain rfl := Option.some.inj ha
  have hu2 : (cb bs)[k + j]? = some u := by
   rw [← hu]
   simp [cb]
  have := h.lie _ rfl (k + j) u hu2
  rw [Addr.add_lit] at this ⊢
  rw [← this, Nat.add_assoc]⟩
theorem Rd.move {w : World} {g b o c : Nat} {bs : List UInt8} {e : Int} (h : Rd w g (some ⟨b, o, none⟩) c bs e) (k o' n d : Nat) (hn : n = bs.length - k) (hd : n ≤ d) (hy : By w (some ⟨b, o', none⟩) d (bs.drop k)) : Rd (w.setCell ⟨g, 0, none⟩ (.slice (some ⟨b, o', none⟩) n d)) g (some ⟨b, o', none⟩) d (bs.drop k) e := by
 have hf := h.fr _ rfl
 subst hn
 refine ⟨?_, (Kp.grown (grown_set w g 0 _)).by hy hf.2 hf.1, fun a ha => ?_, by simpa using hd⟩
 ·rw [heap_setCell_same w g 0 _ _ _ h.at', List.length_drop]; rfl
 ·obtain rfl := Option.some.inj ha
  exact ⟨hf.1, by simpa using hf.2⟩
end Go.Proofs.YthngomhhafoamaaGreatDoor.Tr
namespace Go.Proofs.YthngomhhafoamaaGreatDoor.Tr
open Go.RowKit
theorem and127 (y : UInt8) : bits .and .u8 (y.toNat : Int) 127 = ((y.toNat % 128 : Nat) : Int) := by
 have : ∀ n : Fin 256, bits .and .u8 (n.val : Int) 127 = ((n.val % 128 : Nat) : Int) := by decide +kernel
 exact this ⟨y.toNat, y.toNat_lt⟩
theorem or_add (acc x k : Nat) (ha : acc < 2 ^ (7 * k)) (hx : x * 2 ^ (7 * k) < 2 ^ 64) (hk : k ≤ 9) : bits .or .u64 (acc : Int) ((x * 2 ^ (7 * k) : Nat) : Int) = ((acc + x * 2 ^ (7 * k) : Nat) : Int) := by
 have h64 : 2 ^ (7 * k) ≤ 2 ^ 63 := Nat.pow_le_pow_right (by omega) (by omega)
 have h1 := u64_or acc (x * 2 ^ (7 * k)) (by omega) hx
 have h2 : acc ||| x * 2 ^ (7 * k) = acc + x * 2 ^ (7 * k) := by
  have := Nat.shiftLeft_add_eq_or_of_lt ha x
  rw [Nat.shiftLeft_eq] at this
  rw [Nat.or_comm, ← this]
  omega
 rw [← h2, ← h1]
 rfl
theorem nm_of {bs : List UInt8} {most : Nat} {x : Nat × Nat × Nat} (h : rd 0 0 bs = x) : nm bs most = if x.2.2 = 0 ∧ most < x.1 then (0, 0, 102) else x := by
 unfold nm
 rw [h]
set_option maxRecDepth 100000 in
set_option maxHeartbeats 8000000 in
theorem number_any (P : Option Addr) (c : Nat) (bs : List UInt8) (most : Nat) (w : World) (hB : By w P c bs) (hl : bs.length ≤ 2 ^ 62) :
  Calls Tryz.prog 68 #[.slice P bs.length c, .int .u64 (most : Int)] w fun e w' => e = .returned (.tuple #[.int .u64 ((nm bs most).1 : Int), .int .i64 ((nm bs most).2.1 : Int), .int .i64 ((nm bs most).2.2 : Int)]) ∧ w' = w := by
 have HL := Hn hl
 have HP := Hn hB
 clear hl hB
 go_enter Tryz.func68, Tryz.ntmps68
 go_wp2_with fail
 refine wp_scope_jumps 0 (fun a' w' => w' = w ∧ Hid (nm bs most = (0, 0, 102)) ∧ ∃ (x0 x1 x2 x3 x4 x5 x6 x7 x8 x9 x10 x11 x12 x13 x14 x15 x16 x17 x18 x19 x20 x21 x22 x23 x24 x25 x26 x27 x28 x29 x30 x31 x32 x33 x34 x35 x36 x37 x38 x39 x40 x41 x42 x43 x44 : Value), a' = { tmps := #[x0, x1, x2, x3, x4, x5, x6, x7, x8, x9, x10, x11, x12, x13, x14, x15, x16, x17, x18, x19, x20, x21, x22, x23, x24, x25, x26, x27, x28, x29, x30, x31, x32, x33, x34, x35, x36, x37, x38, x39, x40, x41, x42, x43, x44], defers := [] }) (fun _ _ => 0) rfl ?_ ?_
 ·go_wp2_with fail
  go_loopw [4, 11] (fun av kv w' => ∃ k acc : Nat, k ≤ bs.length ∧ k ≤ 9 ∧ kv = .int .i64 (k : Int) ∧ av = .int .u64 (acc : Int) ∧ Hid (acc < 2 ^ (7 * k) ∧ rd 0 0 bs = rd k acc (bs.drop k)) ∧ w' = w) (fun _ k _ => bs.length - (intOf k).toNat)
  case atStart => exact ⟨0, 0, by omega, by omega, rfl, rfl, Hn ⟨by simp, by simp⟩, rfl⟩
  case round =>
   obtain ⟨k, acc, hk, hk9, rfl, rfl, HR, rfl⟩ := hrel
   by_cases hkn : k < bs.length
   ·obtain ⟨b, o, rfl⟩ := HP.out.none' (by omega)
    have x0 := HP.out.at k hkn
    have k0 : (0 : Int) ≤ (k : Int) := by omega
    have k1 : (k : Int) < (bs.length : Int) := by omega
    have hdr : bs.drop k = bs.getD k 0 :: bs.drop (k + 1) := by
     rw [List.drop_eq_getElem_cons hkn]
     simp [hkn]
    have HRR := HR.out
    rw [hdr] at HRR
    generalize bs.getD k 0 = y at x0 HRR
    have y0 := y.toNat_lt
    have HR2 := Hn HRR
    clear HRR hdr HR
    have HNM := Hn (nm_of (most := most) HR2.out.2)
    by_cases hA : k = 9 ∧ 1 < y.toNat
    ·have q9 : ((k : Int) == 9) = true := by simp; omega
     have q1 : (1 : Int) < (y.toNat : Int) := by omega
     have HN : Hid (nm bs most = (0, 0, 102)) := Hn (by rw [HNM.out]; unfold rd; rw [if_pos hA]; rfl)
     clear HNM HR2 hA
     go_wp2_with fail
     go_step3
     refine ⟨rfl, rfl, HN, _, _, _, _, _, _, _, _, _, _, _, _, _, _, _, _, _, _, _, _, _, _, _, _, _, _, _, _, _, _, _, _, _, _, _, _, _, _, _, _, _, _, _, _, _, rfl⟩
    ·have e0 := and127 y
     have w7 : IntKind.i64.wrap (7 * (k : Int)) = 7 * (k : Int) := IntWalk.i64_in _ (by omega)
     have hS : (y.toNat % 128) * 2 ^ (7 * k) < 2 ^ 64 := by
      by_cases h9 : k = 9
      ·subst h9
       have : ¬ 1 < y.toNat := fun h => hA ⟨rfl, h⟩
       have : y.toNat % 128 ≤ 1 := by omega
       calc (y.toNat % 128) * 2 ^ (7 * 9) ≤ 1 * 2 ^ (7 * 9) := Nat.mul_le_mul_right _ this
        _ < 2 ^ 64 := by decide
      ·have h1 : 2 ^ (7 * k) ≤ 2 ^ 56 := Nat.pow_le_pow_right (by omega) (by omega)
       have h2 : (y.toNat % 128) * 2 ^ (7 * k) ≤ 127 * 2 ^ 56 := Nat.mul_le_mul (by omega) h1
       omega
     have e1 : IntKind.u64.wrap ((y.toNat : Int) % 128 * 2 ^ (7 * k)) = (((y.toNat % 128) * 2 ^ (7 * k) : Nat) : Int) := by
      rw [show ((y.toNat : Int) % 128) * 2 ^ (7 * k) = (((y.toNat % 128) * 2 ^ (7 * k) : Nat) : Int) by simp, IntKind.wrap_u64]
      omega
     have e2 := or_add acc (y.toNat % 128) k HR2.out.1 hS hk9
     have k7 : ¬ 7 * (k : Int) < 0 := by omega
     have HA64 : Hid (acc + (y.toNat % 128) * 2 ^ (7 * k) < 2 ^ 64) := Hn (by
      have h1 : (acc ||| (y.toNat % 128) * 2 ^ (7 * k)) < 2 ^ 64 := Nat.or_lt_two_pow (Nat.lt_of_lt_of_le HR2.out.1 (Nat.pow_le_pow_right (by omega) (by omega))) hS
      have h2 : acc ||| (y.toNat % 128) * 2 ^ (7 * k) = acc + (y.toNat % 128) * 2 ^ (7 * k) := by
       have := Nat.shiftLeft_add_eq_or_of_lt HR2.out.1 (y.toNat % 128)
       rw [Nat.shiftLeft_eq] at this
       rw [Nat.or_comm, ← this]
       omega
      omega)
     have hq : (((k : Int) == 9) = true ∧ ¬ (1 : Int) < (y.toNat : Int)) ∨ (((k : Int) == 9) = false ∧ True) := by
      by_cases h9 : k = 9
      ·exact .inl ⟨by simp; omega, by omega⟩
      ·exact .inr ⟨by simp; omega, trivial⟩
     have HE : Hid (rd k acc (y :: bs.drop (k + 1)) = if 128 ≤ y.toNat then rd (k + 1) (acc + (y.toNat - 128) * 2 ^ (7 * k)) (bs.drop (k + 1)) else if y.toNat = 0 ∧ 0 < k then (0, 0, 102) else (acc + y.toNat * 2 ^ (7 * k), k + 1, 0)) := Hn (by rw [rd, if_neg hA])
     rcases Nat.lt_or_ge y.toNat 128 with hy | hy
     ·have hym : y.toNat % 128 = y.toNat := by omega
      have hyl : ¬ (128 : Int) ≤ (y.toNat : Int) := by omega
      have HE2 := HE.out
      rw [if_neg (by omega)] at HE2
      rw [hym] at e1 e2 HA64
      by_cases hz : y.toNat = 0 ∧ 0 < k
      ·have z0 : ((y.toNat : Int) == 0) = true := by simp; omega
       have z1 : (0 : Int) < (k : Int) := by omega
       have HN : Hid (nm bs most = (0, 0, 102)) := Hn (by rw [HNM.out, HE2, if_pos hz]; rfl)
       generalize y.toNat * 2 ^ (7 * k) = S at e1 e2 HA64
       clear HNM HR2 HE HE2 hA hS hz hym hy HA64
       rcases hq with ⟨q9, q1⟩ | ⟨q9, -⟩
       all_goals
        go_wp2_with fail
        go_step3
        refine ⟨rfl, rfl, HN, _, _, _, _, _, _, _, _, _, _, _, _, _, _, _, _, _, _, _, _, _, _, _, _, _, _, _, _, _, _, _, _, _, _, _, _, _, _, _, _, _, _, _, _, _, rfl⟩
      ·have z2 : ((y.toNat : Int) == 0) = false ∨ (((y.toNat : Int) == 0) = true ∧ ¬ (0 : Int) < (k : Int)) := by
        by_cases h0 : y.toNat = 0
        ·exact .inr ⟨by simp; omega, by omega⟩
        ·exact .inl (by simp; omega)
       rw [if_neg hz] at HE2
       have HM := HNM.out
       rw [HE2] at HM
       by_cases hm : most < acc + y.toNat * 2 ^ (7 * k)
       ·have m0 : (most : Int) < ((acc + y.toNat * 2 ^ (7 * k) : Nat) : Int) := by omega
        have HN : Hid (nm bs most = (0, 0, 102)) := Hn (by rw [HM, if_pos ⟨rfl, hm⟩])
        generalize acc + y.toNat * 2 ^ (7 * k) = A at e2 m0 HA64
        generalize y.toNat * 2 ^ (7 * k) = S at e1 e2
        clear HNM HR2 HE HE2 HM hA hS hz hym hy HA64 hm
        rcases hq with ⟨q9, q1⟩ | ⟨q9, -⟩
        all_goals
         rcases z2 with z0 | ⟨z0, z1⟩
         all_goals
          go_wp2_with fail
          go_step3
          refine ⟨rfl, rfl, HN, _, _, _, _, _, _, _, _, _, _, _, _, _, _, _, _, _, _, _, _, _, _, _, _, _, _, _, _, _, _, _, _, _, _, _, _, _, _, _, _, _, _, _, _, _, rfl⟩
       ·have m0 : ¬ (most : Int) < ((acc + y.toNat * 2 ^ (7 * k) : Nat) : Int) := by omega
        have HN : Hid (nm bs most = (acc + y.toNat * 2 ^ (7 * k), k + 1, 0)) := Hn (by rw [HM, if_neg (fun h => hm h.2)])
        have w9 : IntKind.i64.wrap ((k : Int) + 1) = ((k + 1 : Nat) : Int) := by rw [IntWalk.i64_in _ (by omega)]; omega
        generalize acc + y.toNat * 2 ^ (7 * k) = A at e2 m0 HA64 HN
        generalize y.toNat * 2 ^ (7 * k) = S at e1 e2
        clear HNM HR2 HE HE2 HM hA hS hz hym hy HA64 hm
        rcases hq with ⟨q9, q1⟩ | ⟨q9, -⟩
        all_goals
         rcases z2 with z0 | ⟨z0, z1⟩
         all_goals
          go_wp2_with fail
          simp only [Exit.jump]
          refine bodyPost_ret (v := .tuple #[.int .u64 (A : Int), .int .i64 ((k + 1 : Nat) : Int), .int .i64 0]) (by simp [results, Tryz.results68, go_sem]) rfl ⟨by rw [HN.out]; rfl, rfl⟩
     ·have hym : y.toNat % 128 = y.toNat - 128 := by omega
      have hyl : (128 : Int) ≤ (y.toNat : Int) := by omega
      have hk8 : k ≠ 9 := fun h => hA ⟨h, by omega⟩
      have q9 : ((k : Int) == 9) = false := by simp; omega
      have HE2 := HE.out
      rw [if_pos hy, ← hym] at HE2
      have w9 : IntKind.i64.wrap ((k : Int) + 1) = (k : Int) + 1 := IntWalk.i64_in _ (by omega)
      have HR3 : Hid (acc + (y.toNat % 128) * 2 ^ (7 * k) < 2 ^ (7 * (k + 1)) ∧ rd 0 0 bs = rd (k + 1) (acc + (y.toNat % 128) * 2 ^ (7 * k)) (bs.drop (k + 1))) := Hn (by
       refine ⟨?_, HR2.out.2.trans HE2⟩
       have h1 := HR2.out.1
       have hp : 2 ^ (7 * (k + 1)) = 2 ^ (7 * k) * 128 := by rw [Nat.mul_add, Nat.pow_add]
       have : (y.toNat % 128) * 2 ^ (7 * k) ≤ 127 * 2 ^ (7 * k) := Nat.mul_le_mul_right _ (by omega)
       omega)
      generalize acc + (y.toNat % 128) * 2 ^ (7 * k) = A at e2 HR3 HA64
      generalize (y.toNat % 128) * 2 ^ (7 * k) = S at e1 e2
      clear HNM HR2 HE HE2 hA hS hq hym HA64
      go_wp2_with fail
      go_roundw
      case rel => first | exact ⟨k + 1, A, by omega, by omega, by go_num, rfl, HR3, rfl⟩ | exact ⟨k + 1, A, by omega, by omega, by go_num, rfl, HR3, trivial⟩
      case measure => simp [intOf]; omega
   ·obtain rfl : k = bs.length := by omega
    have lq : ¬ (bs.length : Int) < (bs.length : Int) := by omega
    have HN : Hid (nm bs most = (0, 0, 100)) := Hn (by
     rw [nm_of HR.out.2, List.drop_length]
     rfl)
    clear HR
    go_wp2_with fail
    simp only [Exit.jump]
    refine bodyPost_ret (v := .tuple #[.int .u64 0, .int .i64 0, .int .i64 100]) (by simp [results, Tryz.results68, go_sem]) rfl ⟨by rw [HN.out]; rfl, rfl⟩
 ·rintro a' w' ⟨rfl, HN, x0, x1, x2, x3, x4, x5, x6, x7, x8, x9, x10, x11, x12, x13, x14, x15, x16, x17, x18, x19, x20, x21, x22, x23, x24, x25, x26, x27, x28, x29, x30, x31, x32, x33, x34, x35, x36, x37, x38, x39, x40, x41, x42, x43, x44, rfl⟩
  go_wp2_with fail
  simp only [Exit.jump]
  refine bodyPost_ret (v := .tuple #[.int .u64 0, .int .i64 0, .int .i64 102]) (by simp [results, Tryz.results68, go_sem]) rfl ⟨by rw [HN.out]; rfl, rfl⟩
end Go.Proofs.YthngomhhafoamaaGreatDoor.Tr
namespace Go.Proofs.YthngomhhafoamaaGreatDoor.Tr
open Go.RowKit
section
variable {w : World} {g c : Nat} {P : Option Addr} {bs : List UInt8} {e : Int}
theorem none_any (h : Rd w g P c bs e) : Calls Tryz.prog 87 #[.pointer (some ⟨g, 0, none⟩)] w fun e w' => e = .returned (.bool false) ∧ w' = w := by
 have x2 := h.c2
 clear h
 go_enter Tryz.func87, Tryz.ntmps87
 go_wp2_with fail
 refine bodyPost_ret (v := .bool false) (by simp [results, Tryz.results87, go_sem]) rfl ⟨rfl, rfl⟩
theorem err_any (h : Rd w g P c bs e) : Calls Tryz.prog 72 #[.pointer (some ⟨g, 0, none⟩)] w fun r w' => r = .returned (.int .i64 e) ∧ w' = w := by
 have x1 := h.c1
 have N := Hn (none_any h)
 clear h
 go_enter Tryz.func72, Tryz.ntmps72
 go_wp2_with (first | (go_at_call 87; refine N.out.mono ?_; rintro r w2 ⟨rfl, rfl⟩))
 refine bodyPost_ret (v := .int .i64 e) (by simp [results, Tryz.results72, go_sem]) rfl ⟨rfl, rfl⟩
theorem left_any (h : Rd w g P c bs e) : Calls Tryz.prog 77 #[.pointer (some ⟨g, 0, none⟩)] w fun r w' => r = .returned (.int .i64 (bs.length : Int)) ∧ w' = w := by
 have x1 := h.c0
 have N := Hn (none_any h)
 clear h
 go_enter Tryz.func77, Tryz.ntmps77
 go_wp2_with (first | (go_at_call 87; refine N.out.mono ?_; rintro r w2 ⟨rfl, rfl⟩))
 refine bodyPost_ret (v := .int .i64 (bs.length : Int)) (by simp [results, Tryz.results77, go_sem]) rfl ⟨rfl, rfl⟩
theorem fail_any (h : Rd w g P c bs 0) (e' : Int) : Calls Tryz.prog 76 #[.pointer (some ⟨g, 0, none⟩), .int .i64 e'] w fun r w' => r = .returned (.tuple #[]) ∧ w' = w.setCell ⟨g, 1, none⟩ (.int .i64 e') := by
 have x1 := h.c1
 have f1 := h.f 1
 have N := Hn (err_any h)
 clear h
 go_enter Tryz.func76, Tryz.ntmps76
 go_wp2_with (first | (go_at_call 72; refine N.out.mono ?_; rintro r w2 ⟨rfl, rfl⟩))
 refine bodyPost_end (v := .tuple #[]) (by simp [results, Tryz.results76, go_sem]) rfl ⟨rfl, rfl⟩
theorem fail_no (h : Rd w g P c bs e) (he : e ≠ 0) (e' : Int) : Calls Tryz.prog 76 #[.pointer (some ⟨g, 0, none⟩), .int .i64 e'] w fun r w' => r = .returned (.tuple #[]) ∧ w' = w := by
 have n0 : (e == 0) = false := by simpa using he
 have N := Hn (err_any h)
 clear h
 go_enter Tryz.func76, Tryz.ntmps76
 go_wp2_with (first | (go_at_call 72; refine N.out.mono ?_; rintro r w2 ⟨rfl, rfl⟩))
 refine bodyPost_end (v := .tuple #[]) (by simp [results, Tryz.results76, go_sem]) rfl ⟨rfl, rfl⟩
def en (bs : List UInt8) (e : Int) : Int := if e = 0 ∧ bs.length ≠ 0 then 101 else e
theorem end_any (h : Rd w g P c bs e) : Calls Tryz.prog 46 #[.pointer (some ⟨g, 0, none⟩)] w fun r w' => r = .returned (.int .i64 (en bs e)) ∧ Rd w' g P c bs (en bs e) ∧ Kp g w w' := by
 have L := Hn (left_any h)
 by_cases hb : bs.length = 0
 ·have n0 : ((bs.length : Int) != 0) = false := by simp; exact List.eq_nil_of_length_eq_zero hb
  have E := Hn (err_any h)
  have HR := Hn h
  have he : en bs e = e := by unfold en; rw [if_neg (fun x => x.2 hb)]
  rw [he]
  clear h he
  go_enter Tryz.func46, Tryz.ntmps46
  have b0 : bs = [] := List.eq_nil_of_length_eq_zero hb
  subst b0
  go_wp2_with (first | (go_at_call 77; refine L.out.mono ?_; rintro r w2 ⟨rfl, rfl⟩; clear L) | (go_at_call 72; refine E.out.mono ?_; rintro r w2 ⟨rfl, rfl⟩; clear E))
  refine bodyPost_ret (v := .int .i64 e) (by simp [results, Tryz.results46, go_sem]) rfl ⟨rfl, HR.out, Kp.refl _ _⟩
 ·have n0 : ¬ bs = [] := fun h => hb (by rw [h]; rfl)
  by_cases he : e = 0
  ·subst he
   have F := Hn (fail_any h 101)
   have E := Hn (err_any (h.fail 101))
   have HR := Hn (h.fail 101)
   have he : en bs 0 = 101 := by unfold en; rw [if_pos ⟨rfl, hb⟩]
   rw [he]
   clear h he
   go_enter Tryz.func46, Tryz.ntmps46
   go_wp2_with (first | (go_at_call 77; refine L.out.mono ?_; rintro r w2 ⟨rfl, rfl⟩; clear L) | (go_at_call 76; refine F.out.mono ?_; rintro r w2 ⟨rfl, rfl⟩; clear F) | (go_at_call 72; refine E.out.mono ?_; rintro r w2 ⟨rfl, rfl⟩; clear E))
   refine bodyPost_ret (v := .int .i64 101) (by simp [results, Tryz.results46, go_sem]) rfl ⟨rfl, HR.out, Kp.grown (grown_set _ _ _ _)⟩
  ·have F := Hn (fail_no h he 101)
   have E := Hn (err_any h)
   have HR := Hn h
   have he2 : en bs e = e := by unfold en; rw [if_neg (fun x => he x.1)]
   rw [he2]
   clear h he he2
   go_enter Tryz.func46, Tryz.ntmps46
   go_wp2_with (first | (go_at_call 77; refine L.out.mono ?_; rintro r w2 ⟨rfl, rfl⟩; clear L) | (go_at_call 76; refine F.out.mono ?_; rintro r w2 ⟨rfl, rfl⟩; clear F) | (go_at_call 72; refine E.out.mono ?_; rintro r w2 ⟨rfl, rfl⟩; clear E))
   refine bodyPost_ret (v := .int .i64 e) (by simp [results, Tryz.results46, go_sem]) rfl ⟨rfl, HR.out, Kp.refl _ _⟩
theorem reader_new (w : World) (Q : Option Addr) (d : Nat) (bs : List UInt8) (hy : By w Q d bs) (hb : ∀ a, Q = some a → a.block < w.heap.size) (hd : bs.length ≤ d) : Rd (w.alloc (.cells #[.slice Q bs.length d, .int .i64 0, .bool true] 107)) w.heap.size Q d bs 0 :=
 ⟨heap_alloc_new w _, hy.keep (bl_alloc w _), fun a ha => ⟨Nat.ne_of_lt (hb a ha), Nat.lt_of_lt_of_le (hb a ha) (bl_alloc w _).size⟩, hd⟩
theorem newReader_any (hB : By w P c bs) (hl : bs.length ≤ 140737488355328) : Calls Tryz.prog 42 #[.slice P bs.length c] w fun r w' => ∃ (g : Nat) (Q : Option Addr) (d : Nat), r = .returned (.pointer (some ⟨g, 0, none⟩)) ∧ Rd w' g Q d bs 0 ∧ w.heap.size ≤ g ∧ Below w.heap.size w w' := by
 have C := Hn (clone_any P c bs w hB hl)
 clear hB hl
 go_enter Tryz.func42, Tryz.ntmps42
 go_wp2_with (first | (go_at_call 65; refine C.out.mono ?_; rintro r w1 ⟨v1, rfl, ho, hb⟩; have hlt := ho.lt; obtain ⟨Q, d, rfl, hd⟩ := own_shape ho; have HB := Hn hb; have HR := Hn (reader_new w1 Q d bs (own_byQ ho) (fun a ha => by subst ha; rcases ho.2 with ⟨hv, _⟩ | ⟨k, cap, cur, hv, _, hk, _⟩; (· simp at hv); (· simp only [Value.slice.injEq] at hv; obtain ⟨h1, _⟩ := hv; rw [Option.some.inj h1]; exact (Array.getElem?_eq_some_iff.1 hk).1)) hd); clear ho hb hlt hd C))
 refine bodyPost_ret (v := .pointer (some ⟨w1.heap.size, 0, none⟩)) (by simp [results, Tryz.results42, go_sem]) rfl ⟨_, Q, d, rfl, HR.out, HB.out.size, bl_trans HB.out (bl_alloc w1 _)⟩
end
end Go.Proofs.YthngomhhafoamaaGreatDoor.Tr
namespace Go.Proofs.YthngomhhafoamaaGreatDoor.Tr
open Go.RowKit
def ct (bs : List UInt8) (most : Nat) : Nat × Nat × Nat :=
 let x := nm bs 18446744073709551615
 if x.2.2 ≠ 0 then (0, 0, x.2.2) else if most < x.1 then (0, 0, 103) else x
theorem ct_bad {bs : List UInt8} {most : Nat} (h : (nm bs 18446744073709551615).2.2 ≠ 0) : ct bs most = (0, 0, (nm bs 18446744073709551615).2.2) := by simp [ct, h]
theorem ct_more {bs : List UInt8} {most : Nat} (h : (nm bs 18446744073709551615).2.2 = 0) (hm : most < (nm bs 18446744073709551615).1) : ct bs most = (0, 0, 103) := by simp [ct, h, hm]
theorem ct_ok {bs : List UInt8} {most : Nat} (h : (nm bs 18446744073709551615).2.2 = 0) (hm : ¬ most < (nm bs 18446744073709551615).1) : ct bs most = nm bs 18446744073709551615 := by simp [ct, h, hm]
theorem count_any (P : Option Addr) (c : Nat) (bs : List UInt8) (most : Nat) (w : World) (hB : By w P c bs) (hl : bs.length ≤ 2 ^ 62) (hm : most < 2 ^ 63) :
  Calls Tryz.prog 71 #[.slice P bs.length c, .int .i64 (most : Int)] w fun e w' => e = .returned (.tuple #[.int .i64 ((ct bs most).1 : Int), .int .i64 ((ct bs most).2.1 : Int), .int .i64 ((ct bs most).2.2 : Int)]) ∧ w' = w := by
 have N : Hid (Calls Tryz.prog 68 #[.slice P bs.length c, .int .u64 18446744073709551615] w fun e w' => e = .returned (.tuple #[.int .u64 ((nm bs 18446744073709551615).1 : Int), .int .i64 ((nm bs 18446744073709551615).2.1 : Int), .int .i64 ((nm bs 18446744073709551615).2.2 : Int)]) ∧ w' = w) := Hn (number_any P c bs 18446744073709551615 w hB hl)
 have hn := fun h => (nm_ok bs 18446744073709551615 h).1
 have k0 : ¬ (most : Int) < 0 := by omega
 have k1 : (most : Int) % 18446744073709551616 = (most : Int) := by omega
 have k2 : IntKind.u64.wrap (most : Int) = (most : Int) := by rw [IntKind.wrap_u64]; omega
 by_cases h0 : (nm bs 18446744073709551615).2.2 = 0
 ·have hn := hn h0
  by_cases h1 : most < (nm bs 18446744073709551615).1
  ·have HC := Hn (ct_more h0 h1)
   have h2 : (most : Int) < ((nm bs 18446744073709551615).1 : Int) := by omega
   rw [h0] at N
   generalize nm bs 18446744073709551615 = x at *
   clear hB hl hn h0 h1 hm
   go_enter Tryz.func71, Tryz.ntmps71
   go_wp2_with (first | (go_at_call 68; refine N.out.mono ?_; rintro r w2 ⟨rfl, rfl⟩; clear N))
   refine bodyPost_ret (v := .tuple #[.int .i64 0, .int .i64 0, .int .i64 103]) (by simp [results, Tryz.results71, go_sem]) rfl ⟨by rw [HC.out]; rfl, rfl⟩
  ·have HC := Hn (ct_ok h0 h1)
   have h2 : ¬ (most : Int) < ((nm bs 18446744073709551615).1 : Int) := by omega
   have k3 : IntKind.i64.wrap ((nm bs 18446744073709551615).1 : Int) = ((nm bs 18446744073709551615).1 : Int) := IntWalk.i64_in _ (by omega)
   have HZ := Hn h0
   rw [h0] at N
   generalize nm bs 18446744073709551615 = x at *
   clear hB hl hn h0 h1 hm
   go_enter Tryz.func71, Tryz.ntmps71
   go_wp2_with (first | (go_at_call 68; refine N.out.mono ?_; rintro r w2 ⟨rfl, rfl⟩; clear N))
   refine bodyPost_ret (v := .tuple #[.int .i64 (x.1 : Int), .int .i64 (x.2.1 : Int), .int .i64 0]) (by simp [results, Tryz.results71, go_sem]) rfl ⟨by rw [HC.out, HZ.out]; rfl, rfl⟩
 ·have HC := Hn (ct_bad (most := most) h0)
  have h2 : (((nm bs 18446744073709551615).2.2 : Int) != 0) = true := by simpa using h0
  generalize nm bs 18446744073709551615 = x at *
  clear hB hl hn h0 hm
  go_enter Tryz.func71, Tryz.ntmps71
  go_wp2_with (first | (go_at_call 68; refine N.out.mono ?_; rintro r w2 ⟨rfl, rfl⟩; clear N))
  refine bodyPost_ret (v := .tuple #[.int .i64 0, .int .i64 0, .int .i64 (x.2.2 : Int)]) (by simp [results, Tryz.results71, go_sem]) rfl ⟨by rw [HC.out]; rfl, rfl⟩
theorem told_any (P : Option Addr) (c X : Nat) (bs : List UInt8) (most : Nat) (w : World) (hB : By w P c bs) (hl : bs.length ≤ 2 ^ 62) (hX : w.cell? ⟨X, 0, none⟩ = some (.int .u64 (most : Int))) :
  Calls Tryz.prog 67 #[.slice P bs.length c, .pointer (some ⟨X, 0, none⟩)] w fun e w' => e = .returned (.tuple #[.int .u64 ((nm bs most).1 : Int), .int .i64 ((nm bs most).2.1 : Int), .int .i64 ((nm bs most).2.2 : Int)]) ∧ w' = w := by
 have N := Hn (number_any P c bs most w hB hl)
 generalize nm bs most = x at N
 clear hB hl
 go_enter Tryz.func67, Tryz.ntmps67
 go_wp2_with (first | (go_at_call 68; refine N.out.mono ?_; rintro r w2 ⟨rfl, rfl⟩; clear N))
 refine bodyPost_ret (v := .tuple #[.int .u64 (x.1 : Int), .int .i64 (x.2.1 : Int), .int .i64 (x.2.2 : Int)]) (by simp [results, Tryz.results67, go_sem]) rfl ⟨rfl, rfl⟩
theorem read64_any {w : World} {g c X : Nat} {P : Option Addr} {bs : List UInt8} (most : Nat) (h : Rd w g P c bs 0) (hl : bs.length ≤ 2 ^ 62) (hX : w.cell? ⟨X, 0, none⟩ = some (.int .u64 (most : Int))) :
  Calls Tryz.prog 66 #[.pointer (some ⟨g, 0, none⟩), .func (.func 67) #[] #[.pointer (some ⟨X, 0, none⟩)]] w fun e w' => ∃ (P' : Option Addr) (c' : Nat), e = .returned (.int .u64 ((nm bs most).1 : Int)) ∧ Rd w' g P' c' (bs.drop (nm bs most).2.1) ((nm bs most).2.2 : Int) ∧ Kp g w w' := by
 have E := Hn (err_any h)
 have T := Hn (told_any P c X bs most w h.by' hl hX)
 have x0 := h.c0
 have f0 := h.f 0
 have hok := nm_ok bs most
 have hbad := nm_fault bs most
 by_cases h0 : (nm bs most).2.2 = 0
 ·obtain ⟨-, -, h1, -, h2, -⟩ := hok h0
  rw [h0] at T
  obtain ⟨b, o, rfl⟩ := h.by'.none' (by omega)
  generalize nm bs most = x at *
  obtain ⟨n, s, e⟩ := x
  dsimp only at *
  subst h0
  have n0 : (s : Int) ≤ (bs.length : Int) := by omega
  have n1 : (0 : Int) ≤ (s : Int) := by omega
  have hc := h.cap
  have HR := Hn h
  clear hok hbad hl h
  by_cases hcs : c = s
  ·subst hcs
   obtain rfl : c = bs.length := by omega
   have HM := Hn (HR.out.move bs.length o 0 0 (by omega) (by omega) (by rw [List.drop_length]; exact ⟨fun e => (by cases e), fun a ha j u hu => (by simp [cb] at hu)⟩))
   go_enter Tryz.func66, Tryz.ntmps66
   go_wp2_with (first | (go_at_call 72; refine E.out.mono ?_; rintro r w2 ⟨rfl, rfl⟩; clear E) | (go_at_call 67; refine T.out.mono ?_; rintro r w2 ⟨rfl, rfl⟩; clear T))
   refine bodyPost_ret (v := .int .u64 (n : Int)) (by simp [results, Tryz.results66, go_sem]) rfl ⟨_, _, rfl, HM.out, Kp.grown (grown_set _ _ _ _)⟩
  ·have n2 : ¬ c = s := hcs
   have HM := Hn (HR.out.move s (o + s) (bs.length - s) (c - s) rfl (by omega) (HR.out.by'.drop s _))
   go_enter Tryz.func66, Tryz.ntmps66
   go_wp2_with (first | (go_at_call 72; refine E.out.mono ?_; rintro r w2 ⟨rfl, rfl⟩; clear E) | (go_at_call 67; refine T.out.mono ?_; rintro r w2 ⟨rfl, rfl⟩; clear T))
   refine bodyPost_ret (v := .int .u64 (n : Int)) (by simp [results, Tryz.results66, go_sem]) rfl ⟨_, _, rfl, HM.out, Kp.grown (grown_set _ _ _ _)⟩
 ·obtain ⟨h1, h2, -⟩ := hbad h0
  have F := Hn (fail_any h ((nm bs most).2.2 : Int))
  have HM := Hn (h.fail ((nm bs most).2.2 : Int))
  have n0 : (((nm bs most).2.2 : Int) != 0) = true := by simpa using h0
  rw [h1, h2, List.drop_zero]
  rw [h1, h2] at T
  generalize (nm bs most).2.2 = e at *
  clear hok hbad hl h h0 h1 h2
  go_enter Tryz.func66, Tryz.ntmps66
  go_wp2_with (first | (go_at_call 72; refine E.out.mono ?_; rintro r w2 ⟨rfl, rfl⟩; clear E) | (go_at_call 67; refine T.out.mono ?_; rintro r w2 ⟨rfl, rfl⟩; clear T) | (go_at_call 76; refine F.out.mono ?_; rintro r w2 ⟨rfl, rfl⟩; clear F))
  refine bodyPost_ret (v := .int .u64 0) (by simp [results, Tryz.results66, go_sem]) rfl ⟨_, _, rfl, HM.out, Kp.grown (grown_set _ _ _ _)⟩
theorem read64_no {w : World} {g c : Nat} {P : Option Addr} {bs : List UInt8} {e : Int} (f : Value) (h : Rd w g P c bs e) (he : e ≠ 0) :
  Calls Tryz.prog 66 #[.pointer (some ⟨g, 0, none⟩), f] w fun r w' => r = .returned (.int .u64 0) ∧ w' = w := by
 have E := Hn (err_any h)
 have n0 : (e != 0) = true := by simpa using he
 clear h he
 go_enter Tryz.func66, Tryz.ntmps66
 go_wp2_with (first | (go_at_call 72; refine E.out.mono ?_; rintro r w2 ⟨rfl, rfl⟩; clear E))
 refine bodyPost_ret (v := .int .u64 0) (by simp [results, Tryz.results66, go_sem]) rfl ⟨rfl, rfl⟩
theorem box_cell (w : World) (v : Value) (t : TypeId) : (w.alloc (.cells #[v] t)).cell? ⟨w.heap.size, 0, none⟩ = some v := by
 rw [cell_of_row (w.alloc (.cells #[v] t)) w.heap.size 0 #[v] t (0, 0) (heap_alloc_new w _)]
 rfl
theorem Number_any {w : World} {g c : Nat} {P : Option Addr} {bs : List UInt8} (most : Nat) (h : Rd w g P c bs 0) (hl : bs.length ≤ 2 ^ 62) :
  Calls Tryz.prog 43 #[.pointer (some ⟨g, 0, none⟩), .int .u64 (most : Int)] w fun e w' => ∃ (P' : Option Addr) (c' : Nat), e = .returned (.int .u64 ((nm bs most).1 : Int)) ∧ Rd w' g P' c' (bs.drop (nm bs most).2.1) ((nm bs most).2.2 : Int) ∧ Kp g w w' := by
 have hmf : ∀ (fn : Fn) (first cap : Array Value) (w : World), (Instr.makeFunc fn first cap).run Tryz.prog w = .ok (.func fn first cap) w := fun _ _ _ _ => rfl
 have R := Hn (read64_any most (h.keep (bl_alloc w (.cells #[.int .u64 (most : Int)] 33))) hl (box_cell w _ _))
 have K := Hn (Kp.of (g := g) (bl_alloc w (.cells #[.int .u64 (most : Int)] 33)))
 generalize nm bs most = x at *
 clear h hl
 go_enter Tryz.func43, Tryz.ntmps43
 go_wp2_with (first | (go_at_call 66; refine R.out.mono ?_; rintro r w2 ⟨P', c', rfl, hr, hk⟩; have HR := Hn hr; have HK := Hn hk; clear R hr hk))
 refine bodyPost_ret (v := .int .u64 (x.1 : Int)) (by simp [results, Tryz.results43, go_sem]) rfl ⟨_, _, rfl, HR.out, K.out.trans HK.out⟩
theorem Number_no {w : World} {g c : Nat} {P : Option Addr} {bs : List UInt8} {e : Int} (most : Nat) (h : Rd w g P c bs e) (he : e ≠ 0) :
  Calls Tryz.prog 43 #[.pointer (some ⟨g, 0, none⟩), .int .u64 (most : Int)] w fun r w' => r = .returned (.int .u64 0) ∧ Below w.heap.size w w' := by
 have hmf : ∀ (fn : Fn) (first cap : Array Value) (w : World), (Instr.makeFunc fn first cap).run Tryz.prog w = .ok (.func fn first cap) w := fun _ _ _ _ => rfl
 have R := Hn (fun f => read64_no f (h.keep (bl_alloc w (.cells #[.int .u64 (most : Int)] 33))) he)
 have K := Hn (bl_alloc w (.cells #[.int .u64 (most : Int)] 33))
 clear h he
 go_enter Tryz.func43, Tryz.ntmps43
 go_wp2_with (first | (go_at_call 66; refine (R.out _).mono ?_; rintro r w2 ⟨rfl, rfl⟩; clear R))
 refine bodyPost_ret (v := .int .u64 0) (by simp [results, Tryz.results43, go_sem]) rfl ⟨rfl, K.out⟩
end Go.Proofs.YthngomhhafoamaaGreatDoor.Tr
