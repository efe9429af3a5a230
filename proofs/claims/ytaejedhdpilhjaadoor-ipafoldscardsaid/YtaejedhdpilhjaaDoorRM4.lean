import Derived.Test.YtaejedhdpilhjaaDoorRM3
namespace Go.Proofs.YtaejedhdpilhjaaDoor
namespace Rp
open Go.RowKit
set_option linter.unusedVariables false
set_option maxRecDepth 100000 in
set_option maxHeartbeats 4000000 in
theorem lclone0 (b o c : Nat) (w : World) : Calls Tryd.prog 19 #[.slice (some ⟨b, o, none⟩) 0 c] w fun e w' => ∃ n1 m1 : Nat, e = .returned (.slice (some ⟨n1, 0, none⟩) 0 m1) ∧ w.heap.size ≤ n1 ∧ n1 < w'.heap.size ∧ Below w.heap.size w w' := by
  have eqn := fun (a : Option Addr) (l c : Nat) (w : World) => Lib.run_eql_slice_nil (P := Tryd.prog) w 29 33 a l c 0 0 (by kernel_rfl)
  have B0 := hidden (bl_alloc w (.cells #[] 33))
  go_enter Tryd.func19, Tryd.ntmps19
  go_wp2_with fail
  refine bodyPost_ret (v := .slice (some ⟨w.heap.size, 0, none⟩) 0 0) (by simp [results, Tryd.results19, go_sem]) rfl ⟨w.heap.size, 0, rfl, Nat.le_refl _, by simp, B0.out⟩
theorem cloneN (g n gc : Nat) (F : Nat → E4) (y : World) (hl : n ≤ 1048576) (hr : Rl y g 0 n F) :
    Calls Tryd.prog 19 #[.slice (some ⟨g, 0, none⟩) n gc] y fun e w' => ∃ n1 m1 : Nat, e = .returned (.slice (some ⟨n1, 0, none⟩) n m1) ∧ (Rl w' n1 0 n F ∧ y.heap.size ≤ n1 ∧ n1 < w'.heap.size) ∧ Below y.heap.size y w' := by
  by_cases h0 : 0 < n
  · refine (cloneR g n gc F y h0 hl hr).mono ?_
    rintro e w' ⟨n1, m1, rfl, h1, ⟨r, _⟩, hb⟩
    exact ⟨n1, m1, rfl, ⟨r, h1, World.block_lt_of_cell? w' _ (r.c0 0 h0)⟩, hb⟩
  · obtain rfl : n = 0 := by omega
    refine (lclone0 g 0 gc y).mono ?_
    rintro e w' ⟨n1, m1, rfl, h1, h2, hb⟩
    exact ⟨n1, m1, rfl, ⟨⟨fun k hk => by omega, fun k hk => by omega, fun k hk => by omega, fun k hk => by omega⟩, h1, h2⟩, hb⟩
set_option maxRecDepth 100000 in
set_option maxHeartbeats 4000000 in
theorem folds_any (C : List Value) (n2 m2 n3 m3 k d : Nat) (Q : Option Addr) (w : World) :
    Calls Tryd.prog 17 #[.agg C.toArray, .agg #[.slice (some ⟨n2, 0, none⟩) k m2, .slice (some ⟨n3, 0, none⟩) k m3, .int .u64 0, .int .u64 0, .int .u64 0, .int .u64 0, .int .u64 0, .int .u64 0, .int .u64 0, .int .u64 0], .slice Q k d] w fun e w' => ∃ Bs Bu Bx : Nat, e = .returned (.func (.func 35) #[] #[.pointer (some ⟨Bs, 0, none⟩), .pointer (some ⟨Bu, 0, none⟩), .pointer (some ⟨Bx, 0, none⟩)]) ∧ (w.heap.size ≤ Bs ∧ w.heap.size ≤ Bu ∧ w.heap.size ≤ Bx) ∧ w'.rangeAt Bs 0 C ∧ w'.cell? ⟨Bx, 0, none⟩ = some (.slice (some ⟨n2, 0, none⟩) k m2) ∧ w'.cell? ⟨Bx, 1, none⟩ = some (.slice (some ⟨n3, 0, none⟩) k m3) ∧ w'.cell? ⟨Bu, 0, none⟩ = some (.slice Q k d) ∧ Below w.heap.size w w' := by
  have M1 := (((Mw.start w).new C 35).new [.slice (some ⟨n2, 0, none⟩) k m2, .slice (some ⟨n3, 0, none⟩) k m3, .int .u64 0, .int .u64 0, .int .u64 0, .int .u64 0, .int .u64 0, .int .u64 0, .int .u64 0, .int .u64 0] 31).new [.slice Q k d] 23
  simp only [World.size_alloc] at M1
  have MM := hidden M1
  clear M1
  go_enter Tryd.func17, Tryd.ntmps17
  go_wp2_with fail
  refine bodyPost_ret (v := .func (.func 35) #[] #[.pointer (some ⟨w.heap.size, 0, none⟩), .pointer (some ⟨w.heap.size + 1 + 1, 0, none⟩), .pointer (some ⟨w.heap.size + 1, 0, none⟩)]) (by simp [results, Tryd.results17, go_sem]) rfl ?_
  have rS := (MM.out.r (w.heap.size, C) (by simp)).1
  have rX := (MM.out.r (w.heap.size + 1, [.slice (some ⟨n2, 0, none⟩) k m2, .slice (some ⟨n3, 0, none⟩) k m3, .int .u64 0, .int .u64 0, .int .u64 0, .int .u64 0, .int .u64 0, .int .u64 0, .int .u64 0, .int .u64 0]) (by simp)).1
  have rU := (MM.out.r (w.heap.size + 1 + 1, [.slice Q k d]) (by simp)).1
  have x0 := rX 0 _ rfl
  have x1 := rX 1 _ rfl
  have u0 := rU 0 _ rfl
  simp only [Nat.zero_add] at x0 x1 u0
  exact ⟨_, _, _, rfl, ⟨by omega, by omega, by omega⟩, rS, x0, x1, u0, MM.out.bel⟩
/-- all that folds has in its boxes -/
def Fx (base k : Nat) (u fl fr fg fh : Nat → E4) (v : World) (D1 : Value) (n2 m2 n3 m3 : Nat) (D4 : Value) (Bs Bu Bx : Nat) : Prop :=
  ∃ (y : Sx) (Q : Option Addr) (d ub : Nat), y.n = 2 ^ k ∧ (base ≤ y.g ∧ base ≤ y.h) ∧ Tw v y fg fh ∧ (Rl v n2 0 k fl ∧ base ≤ n2 ∧ n2 < v.heap.size) ∧ (Rl v n3 0 k fr ∧ base ≤ n3 ∧ n3 < v.heap.size) ∧ (0 < k → Q = some ⟨ub, 0, none⟩) ∧ Rl v ub 0 k u ∧ (ub = 0 ∨ base ≤ ub) ∧ ub < v.heap.size ∧
    v.rangeAt Bs 0 y.cs ∧ v.cell? ⟨Bx, 0, none⟩ = some (.slice (some ⟨n2, 0, none⟩) k m2) ∧ v.cell? ⟨Bx, 1, none⟩ = some (.slice (some ⟨n3, 0, none⟩) k m3) ∧ v.cell? ⟨Bu, 0, none⟩ = some (.slice Q k d) ∧ base ≤ Bx
theorem Tw.bel {A B : World} {x : Sx} {F G : Nat → E4} (h : Tw A x F G) (hb : Below A.heap.size A B) : Tw B x F G := ⟨h.op, h.oq, h.cg, h.ch, h.rg.keep hb, h.rh.keep hb, h.og, h.oh⟩
theorem Fx.keep {base k : Nat} {u fl fr fg fh : Nat → E4} {v v' : World} {D1 : Value} {n2 m2 n3 m3 : Nat} {D4 : Value} {Bs Bu Bx : Nat} (h : Fx base k u fl fr fg fh v D1 n2 m2 n3 m3 D4 Bs Bu Bx) (hb : Below v.heap.size v v') : Fx base k u fl fr fg fh v' D1 n2 m2 n3 m3 D4 Bs Bu Bx := by
  obtain ⟨y, Q, d, ub, h1, h2, h3, h4, h5, h6, h7, h8, h9, g1, g2, g3, g4, g5⟩ := h
  have s := hb.size
  exact ⟨y, Q, d, ub, h1, h2, h3.bel hb, ⟨h4.1.keep hb, h4.2.1, by omega⟩, ⟨h5.1.keep hb, h5.2.1, by omega⟩, h6, h7.keep hb, h8, by omega, range_keepM g1 hb, cell_keep g2 hb, cell_keep g3 hb, cell_keep g4 hb, g5⟩
theorem rl_box {A B : World} {q n tb : Nat} {f : Nat → E4} (h : Rl A q 0 n f) (kq : Kq (fun j => j = tb) A B) (hn : A.cell? ⟨tb, 0, none⟩ = some .nilFunc) : Rl B q 0 n f := by
  by_cases h0 : 0 < n
  · refine kq.rl h (fun e => ?_)
    have c := h.c0 0 h0
    have e' : q = tb := e
    subst e'
    simp only [Nat.zero_mul, Nat.add_zero] at c
    rw [hn] at c
    cases c
  · exact ⟨fun k hk => by omega, fun k hk => by omega, fun k hk => by omega, fun k hk => by omega⟩
theorem Fx.gives {base k : Nat} {u fl fr fg fh : Nat → E4} {A : World} {D1 : Value} {n2 m2 n3 m3 : Nat} {D4 : Value} {Bs Bu Bx tb : Nat} (h : Fx base k u fl fr fg fh A D1 n2 m2 n3 m3 D4 Bs Bu Bx) (hT : Tb A) (hk : k ≤ 5) (lok : ∀ t, t < k → (fl t).ok) (rok : ∀ t, t < k → (fr t).ok) (uok : ∀ t, t < k → (u t).ok) (hn : A.cell? ⟨tb, 0, none⟩ = some .nilFunc) (hbz : base ≤ A.heap.size) (htb : 0 < base)
    (ex : Nat → Prop) (e1 : ∀ j, ex j → j < base) (e2 : ¬ ex 0) :
    Gives (α := Sx) Fence.wide 3 Tryd.prog 21 #[.pointer (some ⟨tb, 0, none⟩)] (fun x => #[x.v]) (fun b => Kq (fun j => ex j ∨ j + 1 = b))
      (fun b pre y V => Yo u fg fh k pre.length y V ∧ b + 5 ≤ y.g ∧ b + 5 ≤ y.h) (fun xs => xs.length = k + 1) (k + 1) 5 (A.setCell ⟨tb, 0, none⟩ (.func (.func 35) #[] #[.pointer (some ⟨Bs, 0, none⟩), .pointer (some ⟨Bu, 0, none⟩), .pointer (some ⟨Bx, 0, none⟩)])) := by
  obtain ⟨y, Q, d, ub, h1, h2, h3, h4, h5, h6, h7, h8, h9, g1, g2, g3, g4, g5⟩ := h
  have kq : Kq (fun j => j = tb) A (A.setCell ⟨tb, 0, none⟩ (.func (.func 35) #[] #[.pointer (some ⟨Bs, 0, none⟩), .pointer (some ⟨Bu, 0, none⟩), .pointer (some ⟨Bx, 0, none⟩)])) := Kq.grown (grownBy_setCell' A tb _) rfl
  have sz : (A.setCell ⟨tb, 0, none⟩ (.func (.func 35) #[] #[.pointer (some ⟨Bs, 0, none⟩), .pointer (some ⟨Bu, 0, none⟩), .pointer (some ⟨Bx, 0, none⟩)])).heap.size = A.heap.size := World.size_setCell _ _ _
  have hb : (A.setCell ⟨tb, 0, none⟩ (.func (.func 35) #[] #[.pointer (some ⟨Bs, 0, none⟩), .pointer (some ⟨Bu, 0, none⟩), .pointer (some ⟨Bx, 0, none⟩)])).cell? ⟨tb, 0, none⟩ = some (.func (.func 35) #[] #[.pointer (some ⟨Bs, 0, none⟩), .pointer (some ⟨Bu, 0, none⟩), .pointer (some ⟨Bx, 0, none⟩)]) := World.cell?_setCell_same _ _ _ (by rw [hn])
  have ne : ∀ {q : Nat} {v : Value}, A.cell? ⟨q, 0, none⟩ = some v → v ≠ .nilFunc → ¬ (fun j => j = tb) q := fun {q v} hc hv e => by
    have e' : q = tb := e
    subst e'
    rw [hn] at hc
    exact hv (Option.some.inj hc).symm
  have np : 0 < y.n := by rw [h1]; exact Nat.pow_pos (by omega)
  have nS : ¬ (fun j => j = tb) Bs := ne (v := .int .u64 y.p.x0) (by have := g1 0 _ rfl; exact this) (by intro h; cases h)
  have nX : ¬ (fun j => j = tb) Bx := ne g2 (by intro h; cases h)
  have nU : ¬ (fun j => j = tb) Bu := ne g4 (by intro h; cases h)
  have nT : ¬ (fun j => j = tb) 0 := ne hT.1 (by intro h; cases h)
  have lg := World.block_lt_of_cell? A _ (h3.rg.c0 0 np)
  have lh := World.block_lt_of_cell? A _ (h3.rh.c0 0 np)
  have tw' : Tw (A.setCell ⟨tb, 0, none⟩ (.func (.func 35) #[] #[.pointer (some ⟨Bs, 0, none⟩), .pointer (some ⟨Bu, 0, none⟩), .pointer (some ⟨Bx, 0, none⟩)])) y fg fh := ⟨h3.op, h3.oq, h3.cg, h3.ch, rl_box h3.rg kq hn, rl_box h3.rh kq hn, h3.og, h3.oh⟩
  have bx : ∀ j, base ≤ j → ¬ ex j := fun j hj h => by have := e1 j h; omega
  exact rounds2_gives ex tb Bs Bu Bx k ub d n2 m2 n3 m3 Q u fl fr fg fh y _ (by omega) hb (kq.tb hT nT) (kq.range g1 nS) (kq.cell g4 nU) h6 (rl_box h7 kq hn) uok (kq.cell g2 nX) (kq.cell g3 nX) (rl_box h4.1 kq hn) (rl_box h5.1 kq hn) lok rok tw' h1 (bx _ g5)
    (h8.elim (fun e => by rw [e]; exact e2) (fun e => bx _ e)) (bx _ h4.2.1) (bx _ h5.2.1) e2 (bx _ h2.1) (bx _ h2.2) (by omega) (fun j hj => by have := e1 j hj; omega) (by rw [sz]; exact ⟨h9, h4.2.2, h5.2.2⟩) (by rw [sz]; exact ⟨lg, lh⟩)

set_option maxRecDepth 100000 in
set_option maxHeartbeats 8000000 in
theorem rounds_any (x : Sx) (k la lc ra rc uc : Nat) (up : Option Addr) (u fl fr fg fh : Nat → E4) (w : World) (hk : k ≤ 5) (hT : Tb w) (tw : Tw w x fg fh) (n0 : x.n = 2 ^ k) (hl : Rl w la 0 k fl) (hr : Rl w ra 0 k fr) (lok : ∀ t, t < k → (fl t).ok) (rok : ∀ t, t < k → (fr t).ok) (uok : ∀ t, t < k → (u t).ok)
    (hun : up = none → k = 0 ∧ uc = 0) (hus : ∀ a, up = some a → ∃ ub, a = ⟨ub, 0, none⟩ ∧ Rl w ub 0 k u) (ZA : ∀ y, Below w.heap.size w y → Calls Tryd.prog 23 #[.slice up k uc] y fun e w' => e = .returned (.int .i64 0) ∧ Below y.heap.size y w') :
    Calls Tryd.prog 6 #[x.v, .agg #[.slice (some ⟨la, 0, none⟩) k lc, .slice (some ⟨ra, 0, none⟩) k rc, .int .u64 0, .int .u64 0, .int .u64 0, .int .u64 0, .int .u64 0, .int .u64 0, .int .u64 0, .int .u64 0], .slice up k uc] w fun e w' => ∃ Bk : Nat, e = .returned (.func (.func 21) #[] #[.pointer (some ⟨Bk, 0, none⟩)]) ∧ Below w.heap.size w w' ∧ ∀ ex : Nat → Prop, (∀ j, ex j → j < w.heap.size) → ¬ ex 0 →
      Gives (α := Sx) Fence.wide 3 Tryd.prog 21 #[.pointer (some ⟨Bk, 0, none⟩)] (fun x => #[x.v]) (fun b => Kq (fun j => ex j ∨ j + 1 = b))
        (fun b pre y V => Yo u fg fh k pre.length y V ∧ b + 5 ≤ y.g ∧ b + 5 ≤ y.h) (fun xs => xs.length = k + 1) (k + 1) 5 w' := by
  have M1 := ((Mw.start w).new x.cs 35).new [.slice (some ⟨la, 0, none⟩) k lc, .slice (some ⟨ra, 0, none⟩) k rc, .int .u64 0, .int .u64 0, .int .u64 0, .int .u64 0, .int .u64 0, .int .u64 0, .int .u64 0, .int .u64 0] 31
  simp only [World.size_alloc] at M1
  have RFS := hidden (fun y hb => refusal_any x k lc rc uc (some ⟨la, 0, none⟩) (some ⟨ra, 0, none⟩) up y hk n0 (fun z hz => ZA z (bl_trans hb hz)))
  obtain ⟨C, hC⟩ : ∃ C, x.cs = C := ⟨_, rfl⟩
  have XV : x.v = .agg C.toArray := by unfold Sx.v; rw [hC]
  have IT : Hid ((Tryd.prog.info? 35).map (·.size) = some C.length) := hidden (by rw [← hC]; exact sinfo _ _ _ _)
  rw [hC] at M1
  rw [XV] at RFS ⊢
  have MM := hidden M1
  have HC := hidden (And.intro hC XV)
  clear M1 ZA hC XV
  go_enter Tryd.func6, Tryd.ntmps6
  obtain ⟨wx, hwx⟩ : ∃ wx, (w.alloc (.cells C.toArray 35)).alloc (.cells #[.slice (some ⟨la, 0, none⟩) k lc, .slice (some ⟨ra, 0, none⟩) k rc, .int .u64 0, .int .u64 0, .int .u64 0, .int .u64 0, .int .u64 0, .int .u64 0, .int .u64 0, .int .u64 0] 31) = wx := ⟨_, rfl⟩
  rw [hwx] at MM
  have rP := hidden (MM.out.r (w.heap.size, C) (by simp)).1
  have rA := (MM.out.r (w.heap.size + 1, [.slice (some ⟨la, 0, none⟩) k lc, .slice (some ⟨ra, 0, none⟩) k rc, .int .u64 0, .int .u64 0, .int .u64 0, .int .u64 0, .int .u64 0, .int .u64 0, .int .u64 0, .int .u64 0]) (by simp)).1
  have d0 := rA 0 _ rfl
  have d1 := rA 1 _ rfl
  have RA := hidden rA
  have AI : Hid ((Tryd.prog.info? 31).map (·.size) = some 10) := hidden (by kernel_rfl)
  simp only [Nat.zero_add] at d0 d1
  have BX := hidden MM.out.bel
  clear rA MM
  go_upto_region 3 with (first | (refine wpList_load_mid rfl 35 _ rfl w.heap.size 0 rfl C _ rP.out Tryd.underlying35 rfl IT.out ?_) | (refine wpList_load_mid rfl 31 _ rfl (w.heap.size + 1) 0 rfl [.slice (some ⟨la, 0, none⟩) k lc, .slice (some ⟨ra, 0, none⟩) k rc, .int .u64 0, .int .u64 0, .int .u64 0, .int .u64 0, .int .u64 0, .int .u64 0, .int .u64 0, .int .u64 0] _ RA.out Tryd.underlying31 rfl AI.out ?_) | (go_at_call 15; refine (RFS.out _ BX.out).mono ?_; rintro e wa ⟨rfl, hba⟩; have BA := hidden hba; clear hba))
  have BW := hidden (bl_trans BX.out BA.out)
  have hlt := World.block_lt_of_cell? w _ hT.1
  simp only at hlt
  have s0 := BW.out.size
  obtain ⟨hC, XV⟩ := HC.out
  refine rr3 _ _ w.heap.size (w.heap.size + 1) k la lc ra rc uc up C (fun v D => ∃ y : Sx, D = y.v ∧ y.n = 2 ^ k ∧ (w.heap.size ≤ y.g ∧ w.heap.size ≤ y.h) ∧ Tw v y fg fh) (fun v D => ∃ (Q : Option Addr) (d ub : Nat), D = .slice Q k d ∧ (0 < k → Q = some ⟨ub, 0, none⟩) ∧ Rl v ub 0 k u ∧ (ub = 0 ∨ w.heap.size ≤ ub) ∧ ub < v.heap.size)
    (fun v a _ => Rl v a 0 k fl ∧ w.heap.size ≤ a ∧ a < v.heap.size) (fun v a _ => Rl v a 0 k fr ∧ w.heap.size ≤ a ∧ a < v.heap.size) (Fx w.heap.size k u fl fr fg fh) _ _ _ _ _ _ _ _ _ _ _ _ _ _ _ _ _ _ _ _ _ _ _ wa (range_keepM rP.out BA.out) IT (hidden Tryd.underlying35) rfl (cell_keep d0 BA.out) (cell_keep d1 BA.out)
    (hidden ?k1) (hidden ?k2) (hidden ?k3) (hidden ?k4) (hidden (fun v v' a b c d e f g h i hf hb => hf.keep hb)) (hidden ?c1) (hidden ?c4) (hidden ?c7) (hidden ?c10) (hidden ?c11) (hidden ?fin)
  case k1 =>
    rintro v v' D ⟨y, rfl, h1, h2, h3⟩ hb
    exact ⟨y, rfl, h1, h2, h3.bel hb⟩
  case k2 => exact fun v v' a b h hb => ⟨h.1.keep hb, h.2.1, Nat.lt_of_lt_of_le h.2.2 hb.size⟩
  case k3 => exact fun v v' a b h hb => ⟨h.1.keep hb, h.2.1, Nat.lt_of_lt_of_le h.2.2 hb.size⟩
  case k4 =>
    rintro v v' D ⟨Q, d, ub, rfl, h1, h2, h3, h4⟩ hb
    exact ⟨Q, d, ub, rfl, h1, h2.keep hb, h3, Nat.lt_of_lt_of_le h4 hb.size⟩
  case c1 =>
    intro y hy
    have hwy := bl_trans BW.out hy
    have := relisted_any x fg fh y (tw.bel hwy) (by rw [n0]; exact Nat.pow_pos (by omega)) (by rw [n0]; exact Nat.le_trans (Nat.pow_le_pow_right (by omega) (show k ≤ 20 by omega)) (by decide))
    rw [XV] at this
    refine this.mono ?_
    rintro e w' ⟨z, rfl, _, _, hn, g1, g2, tz, hb⟩
    exact ⟨_, rfl, ⟨z, rfl, hn.trans n0, ⟨by have := hwy.size; omega, by have := hwy.size; omega⟩, tz⟩, hb⟩
  case c4 =>
    intro y hy
    have hwy := bl_trans BW.out hy
    refine (cloneN la k lc fl y (by omega) (hl.keep hwy)).mono ?_
    rintro e w' ⟨n1, m1, rfl, ⟨r, h1, h2⟩, hb⟩
    exact ⟨n1, m1, rfl, ⟨r, by have := hwy.size; omega, h2⟩, hb⟩
  case c7 =>
    intro y hy
    have hwy := bl_trans BW.out hy
    refine (cloneN ra k rc fr y (by omega) (hr.keep hwy)).mono ?_
    rintro e w' ⟨n1, m1, rfl, ⟨r, h1, h2⟩, hb⟩
    exact ⟨n1, m1, rfl, ⟨r, by have := hwy.size; omega, h2⟩, hb⟩
  case c10 =>
    intro y hy
    have hwy := bl_trans BW.out hy
    refine (sclone_any up uc k u y hun (fun a ha j v hv => by
      obtain ⟨ub, rfl, hr⟩ := hus a ha
      have := rl_cells (hr.keep hwy) k (Nat.le_refl _) j v hv
      rw [Addr.add_mid]
      exact this) (by omega)).mono ?_
    rintro e w' ⟨Q, d, rfl, ho, hb⟩
    have sb := hwy.size
    by_cases h0 : 0 < k
    · obtain ⟨ub, c, e, _⟩ := own_someR ho h0
      obtain ⟨rfl, _⟩ : Q = some ⟨ub, 0, none⟩ ∧ d = c := by cases e; exact ⟨rfl, rfl⟩
      have rl := own_rlR ho
      exact ⟨_, rfl, ⟨_, d, ub, rfl, fun _ => rfl, rl, Or.inr (by have := (ho.lt ub rfl).1; omega), World.block_lt_of_cell? w' _ (rl.c0 0 h0)⟩, hb⟩
    · exact ⟨_, rfl, ⟨_, d, 0, rfl, fun h => absurd h h0, ⟨fun j hj => by omega, fun j hj => by omega, fun j hj => by omega, fun j hj => by omega⟩, Or.inl rfl, by have := hb.size; omega⟩, hb⟩
  case c11 =>
    rintro y D1 n2 m2 n3 m3 D4 ⟨z, rfl, h1, h2, h3⟩ r2 r3 ⟨Q, d, ub, rfl, q1, q2, q3, q4⟩
    unfold Sx.v
    refine (folds_any z.cs n2 m2 n3 m3 k d Q y).mono ?_
    rintro e w' ⟨Bs, Bu, Bx, rfl, ⟨b1, b2, b3⟩, c1, c2, c3, c4, hb⟩
    have sb := hb.size
    have np : 0 < z.n := by rw [h1]; exact Nat.pow_pos (by omega)
    have ly := World.block_lt_of_cell? y _ (h3.rg.c0 0 np)
    simp only at ly
    exact ⟨Bs, Bu, Bx, rfl, ⟨z, Q, d, ub, h1, h2, h3.bel hb, ⟨r2.1.keep hb, r2.2.1, by omega⟩, ⟨r3.1.keep hb, r3.2.1, by omega⟩, q1, q2.keep hb, q3, by omega, c1, c2, c3, c4, by omega⟩, hb⟩
  case fin =>
    rintro D1 n2 m2 n3 m3 D4 Bs Bu Bx tb wz htb ⟨wy, hby, hfx, hnf, rfl⟩
    have GV := hidden (fun ex e1 e2 => hfx.gives (tb := tb) ((hT.keep BW.out).keep hby) hk lok rok uok hnf (by have := hby.size; omega) hlt ex e1 e2)
    have BZ := hidden (below_box (bl_trans BW.out hby) (grownBy_setCell' wy tb (.func (.func 35) #[] #[.pointer (some ⟨Bs, 0, none⟩), .pointer (some ⟨Bu, 0, none⟩), .pointer (some ⟨Bx, 0, none⟩)])) (by omega))
    generalize wy.setCell ⟨tb, 0, none⟩ (.func (.func 35) #[] #[.pointer (some ⟨Bs, 0, none⟩), .pointer (some ⟨Bu, 0, none⟩), .pointer (some ⟨Bx, 0, none⟩)]) = wz at GV BZ ⊢
    clear hfx hnf hby htb d0 d1 rP RA hC XV HC RFS
    go_wp2_with fail
    refine bodyPost_ret (v := .func (.func 21) #[] #[.pointer (some ⟨tb, 0, none⟩)]) (by simp [results, Tryd.results6, go_sem]) rfl ⟨tb, rfl, BZ.out, GV.out⟩
end Rp
end Go.Proofs.YtaejedhdpilhjaaDoor
namespace Go.Proofs.YtaejedhdpilhjaaDoor
namespace Rp
open Go.RowKit
set_option linter.unusedVariables false
/-- a list, filled up -/
def ff (L : Nat) (g : Nat → E4) (i : Nat) : E4 := if i < L then g i else lst ((3 * i + 2 : Nat) : Int)
set_option maxRecDepth 100000 in
set_option maxHeartbeats 8000000 in
theorem fill_any (P : Option Addr) (L cap n : Nat) (g : Nat → E4) (w : World) (hT : Tb w) (hL : L ≤ 4398046510976) (hn : n ≤ 32) (hS : Lm w P L g) :
    Calls Tryd.prog 5 #[.slice P L cap, .int .i64 (n : Int)] w fun e w' => ∃ v, e = .returned v ∧ w'.ownsRow w.heap.size 26 4 v n (svs n (ff L g)) ∧ Below w.heap.size w w' := by
  have HS := hidden hS
  have HT := hidden hT
  have HN := hidden hn
  have HLL := hidden hL
  have nn0 : (0 : Int) ≤ (n : Int) := by omega
  obtain ⟨i0, hi, hz0, hz1, hz2⟩ := info_parts infoR
  have HI := hidden hi
  have HZ0 := hidden hz0
  have HZ1 := hidden hz1
  have HZ2 := hidden hz2
  clear hi hz0 hz1 hz2
  have HU : Hid (Tryd.prog.underlying 23 = some (.slice 26)) := hidden (by kernel_rfl)
  clear hS hL hn hT
  go_enter Tryd.func5, Tryd.ntmps5
  go_wp2_with fail
  go_loopw [5, 6] (fun ov iv' w' => ∃ k : Nat, k ≤ n ∧ iv' = .int .i64 k ∧ Hid (w'.ownsRow w.heap.size 26 4 ov k (svs k (ff L g))) ∧ Hid (Below w.heap.size w w')) (fun _ i _ => n - (intOf i).toNat)
  case atStart => exact ⟨0, by omega, rfl, hidden (World.ownsRow_nil _ _ _ _), hidden (Below.refl _ _)⟩
  case round =>
    obtain ⟨k, hk, rfl, hO, hB⟩ := hrel
    by_cases hkn : k < n
    · have k0 : (0 : Int) ≤ (k : Int) := by omega
      have k1 : (k : Int) < (n : Int) := by omega
      have N9 : Hid (k < n ∧ n ≤ 32) := hidden ⟨hkn, HN.out⟩
      have w9 : IntKind.i64.wrap ((k : Int) + 1) = (k : Int) + 1 := IntWalk.i64_in _ (by have := HN.out; omega)
      have bs := hB.out.size
      by_cases hkL : k < L
      · have k2 : (k : Int) < (L : Int) := by omega
        obtain ⟨sb, so, h1, h2⟩ := HS.out
        obtain rfl := h1 (by omega)
        have rx := (h2 (by omega)).keep hB.out
        have x0 := rx.c0 k hkL
        have x1 := rx.c1 k hkL
        have x2 := rx.c2 k hkL
        have x3 := rx.c3 k hkL
        obtain ⟨X, hX⟩ : ∃ X, g k = X := ⟨_, rfl⟩
        rw [hX] at x0 x1 x2 x3
        have SV : Hid (svs (k + 1) (ff L g) = svs k (ff L g) ++ [.int .u64 X.x0, .int .u64 X.x1, .int .u64 X.x2, .int .u64 X.x3]) := hidden (by rw [svs_succ]; simp only [show ff L g k = X by unfold ff; rw [if_pos hkL, hX]])
        clear rx h1 h2 hX
        go_wp2_with (first | (at_builtin; refine wpList_append_moreS _ rfl _ _ 23 rfl w.heap.size 26 i0 (.agg #[.int .u64 0, .int .u64 0, .int .u64 0, .int .u64 0]) 32 HU.out HI.out HZ0.out HZ1.out HZ2.out rfl _ _ _ rfl (Or.inl (hO.out.alloc _)) ⟨wr.heap.size, 0, none⟩ [.int .u64 X.x0, .int .u64 X.x1, .int .u64 X.x2, .int .u64 X.x3] rfl rfl (cells_new wr [.int .u64 X.x0, .int .u64 X.x1, .int .u64 X.x2, .int .u64 X.x3] 26) (by simp [Value.oneCell']) (by have := N9.out; unfold maxLen; omega) (by have := N9.out; omega) (by simp; omega) ?_; intro v' w4 hown hb4; have HO := hidden hown; have HB4 := hidden (below_transI (bl_trans hB.out (bl_alloc wr _)) hb4); clear hown hb4))
        go_roundw
        case rel => exact ⟨k + 1, by omega, by go_num, hidden (by rw [SV.out]; exact HO.out), HB4⟩
        case measure => simp [intOf]; omega
      · have k2 : ¬ (k : Int) < (L : Int) := by omega
        have m1 : IntKind.i64.wrap (3 * (k : Int)) = 3 * (k : Int) := IntWalk.i64_in _ (by have := HN.out; omega)
        have m2 : IntKind.i64.wrap (3 * (k : Int) + 2) = 3 * (k : Int) + 2 := IntWalk.i64_in _ (by have := HN.out; omega)
        have m3 : IntKind.u64.wrap (3 * (k : Int) + 2) = 3 * (k : Int) + 2 := IntWalk.u64_in _ (by have := HN.out; omega)
        have IA := hidden (fun y => fix (Int_any (3 * (k : Int) + 2) y (by have := HN.out; unfold Sm.Wd; omega)) rfl)
        obtain ⟨X, hX⟩ : ∃ X, lst (3 * (k : Int) + 2) = X := ⟨_, rfl⟩
        simp only [E4.v, hX] at IA
        have SV : Hid (svs (k + 1) (ff L g) = svs k (ff L g) ++ [.int .u64 X.x0, .int .u64 X.x1, .int .u64 X.x2, .int .u64 X.x3]) := hidden (by rw [svs_succ]; simp only [show ff L g k = X by unfold ff; rw [if_neg hkL, ← hX]; congr 1])
        clear hX
        go_wp2_with fail
        refine (IA.out _).mono ?_
        rintro e w3 ⟨rfl, hb3⟩
        have O2 := hidden (own_keepI hO.out hb3)
        have B2 := hidden (bl_trans hB.out hb3)
        have bs2 := B2.out.size
        clear hb3 hO hB IA
        go_wp2_with (first | (at_builtin; refine wpList_append_moreS _ rfl _ _ 23 rfl w.heap.size 26 i0 (.agg #[.int .u64 0, .int .u64 0, .int .u64 0, .int .u64 0]) 32 HU.out HI.out HZ0.out HZ1.out HZ2.out rfl _ _ _ rfl (Or.inl (O2.out.alloc _)) ⟨w3.heap.size, 0, none⟩ [.int .u64 X.x0, .int .u64 X.x1, .int .u64 X.x2, .int .u64 X.x3] rfl rfl (cells_new w3 [.int .u64 X.x0, .int .u64 X.x1, .int .u64 X.x2, .int .u64 X.x3] 26) (by simp [Value.oneCell']) (by have := N9.out; unfold maxLen; omega) (by have := N9.out; omega) (by simp; omega) ?_; intro v' w4 hown hb4; have HO := hidden hown; have HB4 := hidden (below_transI (bl_trans B2.out (bl_alloc w3 _)) hb4); clear hown hb4))
        go_roundw
        case rel => exact ⟨k + 1, by omega, by go_num, hidden (by rw [SV.out]; exact HO.out), HB4⟩
        case measure => simp [intOf]; omega
    · have hkn : n = k := by omega
      subst hkn
      have lq : ¬ (n : Int) < (n : Int) := by omega
      go_wp2_with fail
      refine bodyPost_ret (v := u5) (by simp [results, Tryd.results5, go_sem]) rfl ⟨u5, rfl, hO.out, hB.out⟩
set_option maxRecDepth 100000 in
set_option maxHeartbeats 8000000 in
theorem llineOf_any (b c n : Nat) (g : Nat → E4) (w : World) (hn : n ≤ 32) (hR : Rl w b 0 n g) :
    Calls Tryd.prog 7 #[.slice (some ⟨b, 0, none⟩) n c] w fun e w' => ∃ v, e = .returned v ∧ w'.ownsRow w.heap.size 33 4 v n (svs n g) ∧ Below w.heap.size w w' := by
  have HR := hidden hR
  have HN := hidden hn
  have nn0 : (0 : Int) ≤ (n : Int) := by omega
  obtain ⟨i0, hi, hz0, hz1, hz2⟩ := info_parts linfoJ
  have HI := hidden hi
  have HZ0 := hidden hz0
  have HZ1 := hidden hz1
  have HZ2 := hidden hz2
  clear hi hz0 hz1 hz2
  have HU : Hid (Tryd.prog.underlying 29 = some (.slice 33)) := hidden (by kernel_rfl)
  clear hR hn
  go_enter Tryd.func7, Tryd.ntmps7
  go_wp2_with fail
  go_loopw [3, 4] (fun ov iv' w' => ∃ k : Nat, k ≤ n ∧ iv' = .int .i64 k ∧ Hid (w'.ownsRow w.heap.size 33 4 ov k (svs k g)) ∧ Hid (Below w.heap.size w w')) (fun _ i _ => n - (intOf i).toNat)
  case atStart => exact ⟨0, by omega, rfl, hidden (World.ownsRow_nil _ _ _ _), hidden (Below.refl _ _)⟩
  case round =>
    obtain ⟨k, hk, rfl, hO, hB⟩ := hrel
    by_cases hkn : k < n
    · have k0 : (0 : Int) ≤ (k : Int) := by omega
      have k1 : (k : Int) < (n : Int) := by omega
      have N9 : Hid (k < n ∧ n ≤ 32) := hidden ⟨hkn, HN.out⟩
      have w9 : IntKind.i64.wrap ((k : Int) + 1) = (k : Int) + 1 := IntWalk.i64_in _ (by have := HN.out; omega)
      have bs := hB.out.size
      have rx := HR.out.keep hB.out
      have x0 := rx.c0 k hkn
      have x1 := rx.c1 k hkn
      have x2 := rx.c2 k hkn
      have x3 := rx.c3 k hkn
      simp only [Nat.zero_add] at x0 x1 x2 x3
      obtain ⟨X, hX⟩ : ∃ X, g k = X := ⟨_, rfl⟩
      rw [hX] at x0 x1 x2 x3
      have SV : Hid (svs (k + 1) g = svs k g ++ [.int .u64 X.x0, .int .u64 X.x1, .int .u64 X.x2, .int .u64 X.x3]) := hidden (by rw [svs_succ]; simp only [hX])
      clear rx hX
      go_wp2_with (first | (at_builtin; refine wpList_append_moreS _ rfl _ _ 29 rfl w.heap.size 33 i0 (.agg #[.int .u64 0, .int .u64 0, .int .u64 0, .int .u64 0]) 32 HU.out HI.out HZ0.out HZ1.out HZ2.out rfl _ _ _ rfl (Or.inl (hO.out.alloc _)) ⟨wr.heap.size, 0, none⟩ [.int .u64 X.x0, .int .u64 X.x1, .int .u64 X.x2, .int .u64 X.x3] rfl rfl (cells_new wr [.int .u64 X.x0, .int .u64 X.x1, .int .u64 X.x2, .int .u64 X.x3] 33) (by simp [Value.oneCell']) (by have := N9.out; unfold maxLen; omega) (by have := N9.out; omega) (by simp; omega) ?_; intro v' w4 hown hb4; have HO := hidden hown; have HB4 := hidden (below_transI (bl_trans hB.out (bl_alloc wr _)) hb4); clear hown hb4))
      go_roundw
      case rel => exact ⟨k + 1, by omega, by go_num, hidden (by rw [SV.out]; exact HO.out), HB4⟩
      case measure => simp [intOf]; omega
    · have hkn : n = k := by omega
      subst hkn
      have lq : ¬ (n : Int) < (n : Int) := by omega
      go_wp2_with fail
      refine bodyPost_ret (v := u3) (by simp [results, Tryd.results7, go_sem]) rfl ⟨u3, rfl, hO.out, hB.out⟩
end Rp
end Go.Proofs.YtaejedhdpilhjaaDoor
namespace Go.Proofs.YtaejedhdpilhjaaDoor
namespace Rp
open Go.RowKit
set_option linter.unusedVariables false
set_option maxRecDepth 100000 in
set_option maxHeartbeats 2000000 in
theorem index0 (w : World) : Calls Tryd.prog 46 #[.slice none 0 0, .func (.func 4) #[] #[]] w fun e w' => e = .returned (.int .i64 (-1)) ∧ w' = w := by
  go_enter Tryd.func46, Tryd.ntmps46
  go_wp2_with fail
  go_loopw [8] (fun iv' w' => iv' = .int .i64 0 ∧ w' = w) (fun i _ => 0)
  case atStart => exact ⟨rfl, rfl⟩
  case round =>
    obtain ⟨rfl, rfl⟩ := hrel
    go_wp2_with fail
    refine bodyPost_ret (v := .int .i64 (-1)) (by simp [results, Tryd.results46, go_sem]) rfl ⟨rfl, rfl⟩
set_option maxRecDepth 100000 in
set_option maxHeartbeats 2000000 in
theorem contains0 (w : World) : Calls Tryd.prog 38 #[.slice none 0 0, .func (.func 4) #[] #[]] w fun e w' => e = .returned (.bool false) ∧ w' = w := by
  have I := hidden (index0 w)
  go_enter Tryd.func38, Tryd.ntmps38
  go_wp2_with fail
  refine I.out.mono ?_
  rintro e w1 ⟨rfl, rfl⟩
  clear I
  go_wp2_with fail
  refine bodyPost_ret (v := .bool false) (by simp [results, Tryd.results38, go_sem]) rfl ⟨rfl, rfl⟩
set_option maxRecDepth 100000 in
set_option maxHeartbeats 2000000 in
theorem zeroAmong0 (w : World) : Calls Tryd.prog 23 #[.slice none 0 0] w fun e w' => e = .returned (.int .i64 0) ∧ w' = w := by
  have I := hidden (contains0 w)
  go_enter Tryd.func23, Tryd.ntmps23
  go_wp2_with (first | (go_at_call 38; refine (I.out).mono ?_; rintro e w1 ⟨rfl, rfl⟩))
  refine bodyPost_ret (v := .int .i64 0) (by simp [results, Tryd.results23, go_sem]) rfl ⟨rfl, rfl⟩
set_option maxRecDepth 100000 in
set_option maxHeartbeats 2000000 in
theorem InvertAll0 (w : World) (hT : Tb w) : Calls Tryd.prog 39 #[.slice none 0 0] w fun e w' => ∃ v, e = .returned v ∧ Below w.heap.size w w' := by
  have IT := hidden (fun w => fix (Int_any 1 w (by unfold Sm.Wd; omega)) rfl)
  have IN := hidden (fun x T => fix (Invert_any (lst 1) x T (lst_ok _)) rfl)
  have HT := hidden hT
  obtain ⟨X, hX⟩ : ∃ X, lst 1 = X := ⟨_, rfl⟩
  simp only [hX] at IT IN
  obtain ⟨Y, hY⟩ : ∃ Y, iv X.n = Y := ⟨_, rfl⟩
  have IN2 : Hid (∀ x, Tb x → Calls Tryd.prog 11 #[X.v] x fun e w' => e = .returned Y.v ∧ Below x.heap.size x w') := hidden (fun x T => by rw [← hY]; exact fix (Invert_any X x T (by rw [← hX]; exact lst_ok _)) rfl)
  simp only [E4.v] at IT IN2
  clear hT hX hY IN
  obtain ⟨i0, hi, hz0, hz1, hz2⟩ := info_parts infoR
  have hmk := fun w => run_make (P := Tryd.prog) w 23 26 i0 (.agg #[.int .u64 0, .int .u64 0, .int .u64 0, .int .u64 0]) (by kernel_rfl) hi hz0 .i64 .i64 0 0 (by omega) (Int.le_refl _) (by rw [hz2]; omega) (by omega)
  simp only [hz1] at hmk
  have B0 := hidden (bl_alloc w (.cells (madeCells #[.int .u64 0, .int .u64 0, .int .u64 0, .int .u64 0] ((0 : Int).toNat * 4)) 26))
  clear hi hz0 hz1 hz2
  go_enter Tryd.func39, Tryd.ntmps39
  go_wp2_with fail
  refine (IT.out _).mono ?_
  rintro e w1 ⟨rfl, hb1⟩
  have B1 : Hid (Below w.heap.size w w1) := hidden (bl_trans B0.out hb1)
  clear hb1 IT hmk B0
  go_wp2_with fail
  obtain ⟨w2, hw2⟩ : ∃ w2, w1.alloc (.cells #[.int .u64 X.x0, .int .u64 X.x1, .int .u64 X.x2, .int .u64 X.x3] 26) = w2 := ⟨_, rfl⟩
  have B2 : Hid (Below w.heap.size w w2) := hidden (by rw [← hw2]; exact bl_trans B1.out (bl_alloc _ _))
  have rr : w2.rangeAt w1.heap.size 0 [.int .u64 X.x0, .int .u64 X.x1, .int .u64 X.x2, .int .u64 X.x3] := by rw [← hw2]; exact range_newM w1 [.int .u64 X.x0, .int .u64 X.x1, .int .u64 X.x2, .int .u64 X.x3] 26
  have c0 := rr 0 _ rfl
  have c1 := rr 1 _ rfl
  have c2 := rr 2 _ rfl
  have c3 := rr 3 _ rfl
  simp only [Nat.zero_add] at c0 c1 c2 c3
  clear rr
  rw [hw2]
  obtain ⟨bp, hbp⟩ : ∃ bp, bp = w1.heap.size := ⟨_, rfl⟩
  rw [← hbp] at c0 c1 c2 c3
  rw [← hbp]
  clear hw2 B1 hbp
  go_loopw [15] (fun iv' w' => iv' = .int .i64 0 ∧ w' = w2) (fun i _ => 0)
  case atStart => exact ⟨rfl, rfl⟩
  case round =>
    obtain ⟨rfl, rfl⟩ := hrel
    have T2 := hidden (HT.out.keep B2.out)
    go_wp2_with (first | (go_at_call 11; refine (IN2.out _ T2.out).mono ?_; rintro e w3 ⟨rfl, hb3⟩; have B3 := hidden (bl_trans B2.out hb3); clear hb3))
    have B4 := hidden (bl_trans B3.out (bl_alloc w3 (.cells #[.int .u64 Y.x0, .int .u64 Y.x1, .int .u64 Y.x2, .int .u64 Y.x3] 26)))
    generalize w3.alloc (.cells #[.int .u64 Y.x0, .int .u64 Y.x1, .int .u64 Y.x2, .int .u64 Y.x3] 26) = w4 at B4 ⊢
    go_loopw [8] (fun iv' w' => iv' = .int .i64 (-1) ∧ w' = w4) (fun i _ => 0)
    case atStart => exact ⟨rfl, rfl⟩
    case round =>
      obtain ⟨rfl, rfl⟩ := hrel
      go_wp2_with fail
      refine bodyPost_ret (v := .slice (some ⟨w.heap.size, 0, none⟩) 0 0) (by simp [results, Tryd.results39, go_sem]) rfl ⟨_, rfl, B4.out⟩
set_option maxRecDepth 100000 in
set_option maxHeartbeats 2000000 in
theorem weights0 (a : Nat → Int) (w : World) (hT : Tb w) : Calls Tryd.prog 24 #[.slice none 0 0] w fun e w' => ∃ bl cl : Nat, e = .returned (.slice (some ⟨bl, 0, none⟩) 1 cl) ∧ Rws w' bl 1 (ws a 0) ∧ Below w.heap.size w w' := by
  have IA0 := hidden (InvertAll0 w hT)
  have IT := hidden (fun w => fix (Int_any 1 w (by unfold Sm.Wd; omega)) (show lst 1 = ws a 0 0 from rfl))
  simp only [E4.v] at IT
  clear hT
  go_enter Tryd.func24, Tryd.ntmps24
  go_wp2_with (first | (go_at_call 39; refine (IA0.out).mono ?_; rintro e w1 ⟨v, rfl, hb1⟩; have B1 := hidden hb1; clear hb1) | (go_at_call 14; refine (IT.out _).mono ?_; rintro e w2 ⟨rfl, hb2⟩; have B2 := hidden (bl_trans B1.out hb2); clear hb2))
  have R0 := hidden ((Rws.one w2 (ws a 0 0) 26).congr (f := ws a 0) (fun k hk => by rw [show k = 0 by omega]))
  have B3 := hidden (bl_trans B2.out (bl_alloc w2 (.cells #[.int .u64 (ws a 0 0).x0, .int .u64 (ws a 0 0).x1, .int .u64 (ws a 0 0).x2, .int .u64 (ws a 0 0).x3] 26)))
  obtain ⟨X, hX⟩ : ∃ X, ws a 0 0 = X := ⟨_, rfl⟩
  simp only [hX] at R0 B3 ⊢
  generalize w2.alloc (.cells #[.int .u64 X.x0, .int .u64 X.x1, .int .u64 X.x2, .int .u64 X.x3] 26) = w3 at R0 B3 ⊢
  go_loopw [4, 16] (fun lv' iv' w' => lv' = .slice (some ⟨w2.heap.size, 0, none⟩) 1 1 ∧ iv' = .int .i64 0 ∧ w' = w3) (fun _ i _ => 0)
  case atStart => exact ⟨rfl, rfl, rfl⟩
  case round =>
    obtain ⟨rfl, rfl, rfl⟩ := hrel
    go_wp2_with fail
    refine bodyPost_ret (v := .slice (some ⟨w2.heap.size, 0, none⟩) 1 1) (by simp [results, Tryd.results24, go_sem]) rfl ⟨_, _, rfl, R0.out, B3.out⟩
set_option maxRecDepth 100000 in
set_option maxHeartbeats 2000000 in
theorem pWeights0 (a : Nat → Int) (w : World) (hT : Tb w) : Calls Tryd.prog 8 #[.slice none 0 0] w fun e w' => ∃ bl cl : Nat, e = .returned (.tuple #[.slice (some ⟨bl, 0, none⟩) 1 cl, .int .i64 0]) ∧ Rws w' bl 1 (ws a 0) ∧ Below w.heap.size w w' := by
  have ZA := hidden (fun y => zeroAmong0 y)
  have WE := hidden (weights0 a w hT)
  clear hT
  go_enter Tryd.func8, Tryd.ntmps8
  go_wp2_with (first | (go_at_call 23; refine (ZA.out _).mono ?_; rintro e w1 ⟨rfl, rfl⟩) | (go_at_call 24; refine (WE.out).mono ?_; rintro e w2 ⟨bl, cl, rfl, hr, hb2⟩; have B2 := hidden hb2; have R2 := hidden hr; clear hb2 hr))
  refine bodyPost_ret (v := .tuple #[.slice (some ⟨bl, 0, none⟩) 1 cl, .int .i64 0]) (by simp [results, Tryd.results8, go_sem]) rfl ?_
  first | exact ⟨bl, cl, rfl, R2.out, B2.out⟩ | exact ⟨bl, ⟨cl, rfl⟩, R2.out, B2.out⟩
end Rp
end Go.Proofs.YtaejedhdpilhjaaDoor
namespace Go.Proofs.YtaejedhdpilhjaaDoor
namespace Rp
open Go.RowKit
set_option linter.unusedVariables false
/-- a sum of so many -/
def su (F : Nat → Int) : Nat → Int
  | 0 => 0
  | n + 1 => su F n + F n
theorem su_succ (F : Nat → Int) (n : Nat) : su F (n + 1) = su F n + F n := rfl
theorem su_congr {F G : Nat → Int} : ∀ n, (∀ j, j < n → F j = G j) → su F n = su G n
  | 0, _ => rfl
  | n + 1, h => by unfold su; rw [su_congr n (fun j hj => h j (by omega)), h n (by omega)]
theorem su_mod {F G : Nat → Int} : ∀ n, (∀ j, j < n → F j % Sm.L = G j % Sm.L) → su F n % Sm.L = su G n % Sm.L
  | 0, _ => rfl
  | n + 1, h => by unfold su; rw [Int.add_emod, su_mod n (fun j hj => h j (by omega)), h n (by omega), ← Int.add_emod]
theorem su_pair (F : Nat → Int) : ∀ n, su F (2 * n) = su (fun j => F (2 * j) + F (2 * j + 1)) n
  | 0 => rfl
  | n + 1 => by
    rw [show 2 * (n + 1) = 2 * n + 1 + 1 by omega, su_succ, su_succ, su_succ, su_pair F n, Int.add_assoc]
theorem su_lin (F G : Nat → Int) (x y : Int) : ∀ n, su F n * x + su G n * y = su (fun j => F j * x + G j * y) n
  | 0 => by simp [su]
  | n + 1 => by
    unfold su
    rw [← su_lin F G x y n, Int.add_mul, Int.add_mul]
    omega
/-- weights by what each round and bit gives -/
def wc (c : Nat → Nat → Int) : Nat → Nat → Int
  | 0, _ => 1
  | t + 1, j => wc c t (j / 2) * c t (j % 2)
theorem wt_wc (a : Nat → Int) : ∀ t j, wt a 0 t j = wc (cf a) t j
  | 0, _ => rfl
  | t + 1, j => by rw [wt_succ, wt_wc a t, Nat.zero_add]; rfl
/-- folded, in plain numbers -/
def pg (c : Nat → Nat → Int) (k : Nat) (f : Nat → Int) : Nat → Nat → Int
  | 0, i => f i
  | t + 1, i => pg c k f t i * c t 0 + pg c k f t (2 ^ (k - (t + 1)) + i) * c t 1
theorem pg_sum (c : Nat → Nat → Int) (k : Nat) (f : Nat → Int) : ∀ t, t ≤ k → ∀ i, i < 2 ^ (k - t) → pg c k f t i = su (fun j => wc c t j * f (j * 2 ^ (k - t) + i)) (2 ^ t)
  | 0, _, i, _ => by
    show f i = su _ 1
    unfold su su wc
    simp
  | t + 1, ht, i, hi => by
    obtain ⟨h, hh⟩ : ∃ h, h = 2 ^ (k - (t + 1)) := ⟨_, rfl⟩
    have e2 : 2 ^ (k - t) = 2 * h := by rw [hh, show k - t = (k - (t + 1)) + 1 by omega, Nat.pow_succ]; omega
    rw [← hh] at hi
    unfold pg
    rw [← hh, pg_sum c k f t (by omega) i (by rw [e2]; omega), pg_sum c k f t (by omega) (h + i) (by rw [e2]; omega), e2, su_lin, Nat.pow_succ, Nat.mul_comm (2 ^ t) 2, su_pair]
    refine su_congr _ (fun j hj => ?_)
    have d0 : 2 * j / 2 = j := by omega
    have d1 : (2 * j + 1) / 2 = j := by omega
    have m0 : 2 * j % 2 = 0 := by omega
    have m1 : (2 * j + 1) % 2 = 1 := by omega
    show _ = wc c t (2 * j / 2) * c t (2 * j % 2) * f (2 * j * h + i) + wc c t ((2 * j + 1) / 2) * c t ((2 * j + 1) % 2) * f ((2 * j + 1) * h + i)
    rw [d0, d1, m0, m1, show 2 * j * h = j * (2 * h) by rw [Nat.mul_comm 2 j, Nat.mul_assoc], show (2 * j + 1) * h + i = j * (2 * h) + (h + i) by rw [Nat.add_mul, Nat.mul_comm 2 j, Nat.mul_assoc]; omega]
    rw [Int.mul_assoc, Int.mul_assoc, Int.mul_assoc, Int.mul_assoc, Int.mul_comm (f _) (c t 0), Int.mul_comm (f _) (c t 1)]
theorem pg_all (c : Nat → Nat → Int) (k : Nat) (f : Nat → Int) : pg c k f k 0 = su (fun j => wc c k j * f j) (2 ^ k) := by
  rw [pg_sum c k f k (Nat.le_refl _) 0 (by simp)]
  simp
/-- limbs that are folded stand for the numbers that are folded -/
theorem lst_pg (c : Nat → Nat → Int) (k : Nat) (f : Nat → E4) (F : Nat → Nat → E4) (x y : Nat → E4) (h0 : F 0 = f) (hs : ∀ t, F (t + 1) = bd (x t) (y t) (2 ^ (k - (t + 1))) (F t)) (hx : ∀ t, (x t).n % Sm.L = c t 0 % Sm.L) (hy : ∀ t, (y t).n % Sm.L = c t 1 % Sm.L) : ∀ t i, (F t i).n % Sm.L = pg c k (fun j => (f j).n) t i % Sm.L
  | 0, i => by rw [h0]; rfl
  | t + 1, i => by
    rw [hs t]
    unfold bd pg
    rw [lst_n, emod_emod_L, lst_n, lst_n, ← Int.add_emod]
    have e1 := lst_pg c k f F x y h0 hs hx hy t i
    have e2 := lst_pg c k f F x y h0 hs hx hy t (2 ^ (k - (t + 1)) + i)
    rw [Int.add_emod, Int.mul_emod, e1, hx t, ← Int.mul_emod, Int.mul_emod (F t (2 ^ (k - (t + 1)) + i)).n, e2, hy t, ← Int.mul_emod, ← Int.add_emod]
theorem gf_sum (u : Nat → E4) (k : Nat) (f : Nat → E4) : (gf u k f k 0).n % Sm.L = su (fun j => wt (fun t => (u t).n) 0 k j * (f j).n) (2 ^ k) % Sm.L := by
  rw [lst_pg (cf (fun t => (u t).n)) k f (gf u k f) (fun t => iv (u t).n) u rfl (fun t => rfl) (fun t => by show (iv (u t).n).n % Sm.L = _; unfold iv cf; rw [lst_n, emod_emod_L, if_pos rfl]) (fun t => by unfold cf; rw [if_neg (by decide)]) k 0, pg_all]
  simp only [wt_wc]
/-- the inverses' factors -/
def cg (a : Nat → Int) (t b : Nat) : Int := if b = 0 then a t else (a t) ^ 7237005577332262213973186563042994240857116359379907606001950938285454250987
theorem hf_sum (u : Nat → E4) (k : Nat) (f : Nat → E4) : (hf u k f k 0).n % Sm.L = su (fun j => wc (cg (fun t => (u t).n)) k j * (f j).n) (2 ^ k) % Sm.L := by
  rw [lst_pg (cg (fun t => (u t).n)) k f (hf u k f) u (fun t => iv (u t).n) rfl (fun t => rfl) (fun t => by unfold cg; rw [if_pos rfl]) (fun t => by show (iv (u t).n).n % Sm.L = _; unfold iv cg; rw [lst_n, emod_emod_L, if_neg (by decide)]) k 0, pg_all]
theorem inv_inv (a : Int) (h : a % Sm.L ≠ 0) : ((a ^ 7237005577332262213973186563042994240857116359379907606001950938285454250987) ^ 7237005577332262213973186563042994240857116359379907606001950938285454250987) % Sm.L = a % Sm.L := by
  have h1 := inv_mul a h
  have h2 := inv_mul (a ^ 7237005577332262213973186563042994240857116359379907606001950938285454250987)
  generalize 7237005577332262213973186563042994240857116359379907606001950938285454250987 = E at *
  obtain ⟨x, hx⟩ : ∃ x, a ^ E = x := ⟨_, rfl⟩
  rw [hx] at h1 h2 ⊢
  have nx : x % Sm.L ≠ 0 := fun e => by
    rw [Int.mul_emod, e, Int.mul_zero] at h1
    simp at h1
  have h3 := h2 nx
  generalize x ^ E = y at *
  have e1 : y * (a * x) % Sm.L = y % Sm.L := by rw [Int.mul_emod, h1, Int.mul_one, emod_emod_L]
  have e2 : a * (x * y) % Sm.L = a % Sm.L := by rw [Int.mul_emod, h3, Int.mul_one, emod_emod_L]
  rw [← e1, ← e2]
  congr 1
  rw [Int.mul_comm y, Int.mul_assoc]
theorem wc_inv (a : Nat → Int) : ∀ t j, (∀ s, s < t → a s % Sm.L ≠ 0) → (wc (cf a) t j) ^ 7237005577332262213973186563042994240857116359379907606001950938285454250987 % Sm.L = wc (cg a) t j % Sm.L
  | 0, j, _ => by
    show (1 : Int) ^ 7237005577332262213973186563042994240857116359379907606001950938285454250987 % Sm.L = 1 % Sm.L
    rw [Int.one_pow]
  | t + 1, j, h => by
    have ih := wc_inv a t (j / 2) (fun s hs => h s (by omega))
    have e : (cf a t (j % 2)) ^ 7237005577332262213973186563042994240857116359379907606001950938285454250987 % Sm.L = cg a t (j % 2) % Sm.L := by
      unfold cf cg
      by_cases hb : j % 2 = 0
      · rw [if_pos hb, if_pos hb]; exact inv_inv _ (h t (by omega))
      · rw [if_neg hb, if_neg hb]
    unfold wc
    rw [Int.mul_pow, Int.mul_emod, ih, e, ← Int.mul_emod]
end Rp
end Go.Proofs.YtaejedhdpilhjaaDoor
