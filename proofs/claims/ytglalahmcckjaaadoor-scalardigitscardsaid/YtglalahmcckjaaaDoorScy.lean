import Derived.Test.YtglalahmcckjaaaDoorSnf
import Derived.Test.YtglalahmcckjaaaDoorSrt
namespace Go.Proofs.YtglalahmcckjaaaDoor
open Go.RowKit

/-- a slice of ints -/
def Ls (w : World) (s : Value) (n : Nat) (f : Nat → Int) : Prop := ∃ p : Option Addr, s = .slice p n n ∧ (0 < n → ∃ b, p = some ⟨b, 0, none⟩ ∧ Rwi w b n f)
theorem Ls.keep {w1 w2 : World} {s : Value} {n : Nat} {f : Nat → Int} (h : Ls w1 s n f) (hb : Below w1.heap.size w1 w2) : Ls w2 s n f := by
  obtain ⟨p, e, k⟩ := h
  exact ⟨p, e, fun hn => by obtain ⟨b, e2, r⟩ := k hn; exact ⟨b, e2, r.keep hb⟩⟩
set_option maxRecDepth 100000 in
set_option maxHeartbeats 4000000 in
theorem ints_any (s t : Value) (n : Nat) (f : Nat → Int) (w : World) (hn : n < 1000000) (hs : Ls w s n f) (ht : Ls w t n f) :
    Calls Tryd.prog 30 #[s, t] w fun e w' => e = .returned (.bool true) ∧ Below w.heap.size w w' := by
  obtain ⟨p, rfl, hp⟩ := hs
  obtain ⟨q, rfl, hq⟩ := ht
  have HP := hidden hp
  have HQ := hidden hq
  clear hp hq
  have nn0 : (0 : Int) ≤ (n : Int) := by omega
  have nn1 : (n : Int) < 1000000 := by omega
  go_enter Tryd.func30, Tryd.ntmps30
  go_wp2_with fail
  go_loopw [5] (fun iv w' => ∃ k : Nat, k ≤ n ∧ iv = .int .i64 k ∧ Below w.heap.size w w') (fun i _ => n - (intOf i).toNat)
  case atStart => exact ⟨0, by omega, rfl, Below.refl _ _⟩
  case round =>
    obtain ⟨k, hk, rfl, hbl⟩ := hrel
    by_cases hkn : k < n
    · have kk0 : (0 : Int) ≤ (k : Int) := by omega
      have kk1 : (k : Int) < (n : Int) := by omega
      obtain ⟨b, rfl, rb⟩ := HP.out (by omega)
      obtain ⟨c, rfl, rc⟩ := HQ.out (by omega)
      have cb : wr.drew.cell? ⟨b, k, none⟩ = some (.int .i64 (f k)) := cell_keep (rb.c k hkn) hbl.drew
      have cc : wr.drew.cell? ⟨c, k, none⟩ = some (.int .i64 (f k)) := cell_keep (rc.c k hkn) hbl.drew
      have BD := hidden hbl.drew
      generalize f k = x at *
      clear rb rc hbl
      go_upto_region 6 with fail
      go_cut [25] (fun vx wx => vx = .bool false ∧ wx = wr.drew)
      case first =>
        go_region_with fail
        all_goals
          clear cb cc hk nn0 nn1 kk0 kk1 hn hkn
          go_wp2_with fail
          go_meet
          exact ⟨rfl, rfl⟩
      case rest =>
      obtain ⟨rfl, rfl⟩ := hcut
      clear cb cc
      generalize wr.drew = wd at *
      go_wp2_with fail
      go_roundw
      case rel => exact ⟨k + 1, by omega, by go_num, BD.out⟩
      case measure => simp [intOf]; omega
    · have hkk : k = n := by omega
      subst hkk
      have lq : ¬ (k : Int) < (k : Int) := by omega
      go_wp2_with fail
      go_ret
      exact ⟨rfl, hbl⟩
end Go.Proofs.YtglalahmcckjaaaDoor
