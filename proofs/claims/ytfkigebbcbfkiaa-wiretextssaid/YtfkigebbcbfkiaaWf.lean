import Derived.Test.YtfkigebbcbfkiaaWd
import Derived.Laws.Small
namespace Go.Proofs.Ytfkigebbcbfkiaa
open Go.RowKit
/-- a digit's letter -/
def hd (n : Nat) : UInt8 := if n < 10 then UInt8.ofNat (48 + n) else UInt8.ofNat (87 + n)
/-- bytes as digits -/
def hx (bs : List UInt8) : List UInt8 := bs.flatMap fun b => [hd (b.toNat / 16), hd (b.toNat % 16)]
/-- what a letter stands for; 16: nothing -/
def dv (c : UInt8) : Nat := if 48 ≤ c.toNat ∧ c.toNat ≤ 57 then c.toNat - 48 else if 97 ≤ c.toNat ∧ c.toNat ≤ 102 then c.toNat - 87 else 16
/-- the bytes of digits -/
def uh : List UInt8 → Option (List UInt8)
  | [] => some []
  | [_] => none
  | p :: q :: t => if dv p < 16 ∧ dv q < 16 then (uh t).map fun r => UInt8.ofNat (16 * dv p + dv q) :: r else none
theorem hd_dv (n : Nat) (h : n < 16) : dv (hd n) = n := by
  have : ∀ k : Fin 16, dv (hd k.val) = k.val := by decide
  exact this ⟨n, h⟩
theorem dv_hd (c : UInt8) (h : dv c < 16) : hd (dv c) = c := by
  unfold dv at h ⊢
  split
  · rename_i h1
    unfold hd
    rw [if_pos (by omega), show 48 + (c.toNat - 48) = c.toNat by omega]
    simp
  · rename_i h1
    rw [if_neg h1] at h
    split
    · rename_i h2
      unfold hd
      rw [if_neg (by omega), show 87 + (c.toNat - 87) = c.toNat by omega]
      simp
    · rename_i h2
      rw [if_neg h2] at h
      omega
theorem hx_len : ∀ bs : List UInt8, (hx bs).length = 2 * bs.length
  | [] => rfl
  | b :: r => by
    have := hx_len r
    simp only [hx, List.flatMap_cons, List.length_append, List.length_cons, List.length_nil] at this ⊢
    omega
theorem uh_hx : ∀ bs : List UInt8, uh (hx bs) = some bs
  | [] => rfl
  | b :: r => by
    have ih := uh_hx r
    have hb := b.toNat_lt
    simp only [hx, List.flatMap_cons, List.cons_append, List.nil_append] at ih ⊢
    rw [uh, hd_dv _ (by omega), hd_dv _ (by omega), if_pos (by omega), ih]
    simp only [Option.map_some, Option.some.injEq, List.cons.injEq, and_true]
    rw [show 16 * (b.toNat / 16) + b.toNat % 16 = b.toNat by omega]
    simp
theorem hx_uh : ∀ (n : Nat) (l r : List UInt8), l.length ≤ n → uh l = some r → hx r = l
  | _, [], r, _, h => by
    simp only [uh, Option.some.injEq] at h
    subst h
    rfl
  | _, [_], r, _, h => by simp [uh] at h
  | 0, _ :: _ :: _, _, hl, _ => by simp at hl
  | n + 1, p :: q :: t, r, hl, h => by
    unfold uh at h
    split at h
    · rename_i h1
      cases h2 : uh t with
      | none => rw [h2] at h; simp at h
      | some s =>
        rw [h2] at h
        simp only [Option.map_some, Option.some.injEq] at h
        subst h
        have ih := hx_uh n t s (by simp at hl; omega) h2
        have e : (UInt8.ofNat (16 * dv p + dv q)).toNat = 16 * dv p + dv q := by rw [UInt8.toNat_ofNat']; omega
        simp only [hx, List.flatMap_cons, List.cons_append, List.nil_append] at ih ⊢
        rw [e, ih, show (16 * dv p + dv q) / 16 = dv p by omega, show (16 * dv p + dv q) % 16 = dv q by omega, dv_hd p h1.1, dv_hd q h1.2]
    · simp at h
theorem hx_next (bs : List UInt8) (k : Nat) (h : k < bs.length) : hx (bs.take (k + 1)) = hx (bs.take k) ++ [hd ((bs.getD k 0).toNat / 16), hd ((bs.getD k 0).toNat % 16)] := by
  unfold hx
  rw [List.take_add_one, List.flatMap_append]
  simp [List.getElem?_eq_getElem h]
/-- append of bytes for which there is room -/
theorem run_app_fits (w : World) (base ty g n cap : Nat) (xs bs : List UInt8) (a : Addr) (c : Nat) (ho : w.ownsRow base 5 1 (.slice (some ⟨g, 0, none⟩) n cap) n (cb xs)) (hB : By w (some a) c bs) (hx : n + bs.length ≤ cap) :
    ∃ w', (Builtin.append_ #[22, 22] ty #[.slice (some ⟨g, 0, none⟩) n cap, .slice (some a) bs.length c]).run Try.prog w = .ok (.slice (some ⟨g, 0, none⟩) (n + bs.length) cap) w' ∧ w'.ownsRow base 5 1 (.slice (some ⟨g, 0, none⟩) (n + bs.length) cap) (n + bs.length) (cb (xs ++ bs)) ∧ w.grownBy w' (some g) := by
  have h1 : Try.prog.underlying 22 = some (.slice 5) := by kernel_rfl
  have hi : Try.prog.info? 5 = some (Try.prog.info? 5).get! := by kernel_rfl
  have hs : (Try.prog.info? 5).get!.size = 1 := by kernel_rfl
  have hxl : (cb xs).length = n * 1 := ho.1
  rcases ho.2 with ⟨h', _⟩ | ⟨g', cap', cur, h', hbg, hg, hnc, hcm, hcs, htake⟩
  · simp at h'
  · simp only [Value.slice.injEq, Option.some.injEq, Addr.mk.injEq, and_true, true_and] at h'
    obtain ⟨rfl, rfl⟩ := h'
    have hr := run_append_room (P := Try.prog) w _ ty _ _ h1 hi g n cap cur hg a bs.length c (cb bs) (by simp [hs, cb_len]) (hB.lie a rfl) (cb_one bs) hx (by rw [hs, cb_len]; omega)
    rw [hs] at hr
    refine ⟨_, hr, ⟨by rw [cb_app, List.length_append, hxl, cb_len, Nat.add_mul, Nat.mul_one bs.length], .inr ⟨g, cap, _, rfl, hbg, setRow_heap w g cur _ _ _ hg, hx, hcm, ?_, ?_⟩⟩, ⟨rfl, rfl, rfl, by simp, fun k _ hk => setRow_other w g k _ (fun e => hk (by simp [e]))⟩⟩
    · simp only [List.size_toArray, List.length_append, List.length_take, List.length_drop, Array.length_toList, cb_len]
      omega
    · rw [htake, cb_app]
      have : (n + bs.length) * 1 = (cb xs ++ cb bs).length := by rw [List.length_append, hxl, cb_len]; omega
      rw [this]
      exact List.take_left
theorem step_app_fits {ops : Array Oper} {o : Oper} {a : Act} {w : World} {K : Act → World → Prop} {Q : Exit → Act → World → Prop} {E : Prop}
    (hg : o.guard = none) (s x : Operand) (hop : o.op = Op.call { callee := Callee.builtin Builtin.append, args := #[s, x], argTypes := #[22, 22] })
    (base g n cap : Nat) (xs bs : List UInt8) (ad : Addr) (c : Nat) (hs : a.eval s = .slice (some ⟨g, 0, none⟩) n cap) (hx : a.eval x = .slice (some ad) bs.length c) (hown : w.ownsRow base 5 1 (.slice (some ⟨g, 0, none⟩) n cap) n (cb xs)) (hB : By w (some ad) c bs) (hroom : n + bs.length ≤ cap)
    (h : ∀ w', w'.ownsRow base 5 1 (.slice (some ⟨g, 0, none⟩) (n + bs.length) cap) (n + bs.length) (cb (xs ++ bs)) → w.grownBy w' (some g) → K (a.put o.dst (.slice (some ⟨g, 0, none⟩) (n + bs.length) cap)) w') :
    if Region.wanted o (yielded ops a.tmps) = true then Oper.wp Try.prog o a w K Q else E := by
  have hw : Region.wanted o (yielded ops a.tmps) = true := by simp [Region.wanted, hg]
  rw [if_pos hw]
  obtain ⟨w', hr, h2, h3⟩ := run_app_fits w base o.type g n cap xs bs ad c hown hB hroom
  unfold Oper.wp
  simp only [execOp, hop, resolve, invoke, builtin, Sem.run_bind, Sem.run_pure, Result.andThen_ok, List.map_toArray, List.map_cons, List.map_nil, hs, hx, hr]
  exact h w' h2 h3
end Go.Proofs.Ytfkigebbcbfkiaa
