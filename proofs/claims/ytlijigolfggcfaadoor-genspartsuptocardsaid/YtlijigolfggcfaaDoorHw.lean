import Derived.Test.YtlijigolfggcfaaDoorHu
import Derived.Test.YtlijigolfggcfaaDoorHv
namespace Go.Proofs.YtlijigolfggcfaaDoor
open Go.RowKit
set_option linter.unusedVariables false
theorem hdl_oneW (y0 y1 y2 : E4) (P R : Option Addr) (l c m d : Nat) : (hdl y0 y1 y2 ++ [Value.slice P l c, Value.slice R m d]).toArray.all (·.oneCell') = true := by simp [hdl, el, Value.oneCell']
theorem below_setW {w0 w : World} {b o : Nat} (h : Below w0.heap.size w0 w) (hb : w0.heap.size ≤ b) (v : Value) : Below w0.heap.size w0 (w.setCell ⟨b, o, none⟩ v) := h.setCell hb v
theorem own_setW {w : World} {B s n b o : Nat} {e : TypeId} {v : Value} {xs : List Value} (h : w.ownsRow B e s v n xs) (hb : b < B) (u : Value) : (w.setCell ⟨b, o, none⟩ u).ownsRow B e s v n xs := own_far h (fun e => by have := (h.lt b e).1; omega) u
set_option maxRecDepth 100000 in
set_option maxHeartbeats 16000000 in
theorem rpart_in (y0 y1 y2 : E4) (PG PH : Option Addr) (B LG cG LH cH F M : Nat) (fG fH : Nat → E4) (w : World) (hG : LG ≤ 1048576) (hH : LH ≤ 1048576) (hFG : F + M ≤ LG) (hFH : F + M ≤ LH) (oG : w.ownsRow B 44 26 (.slice PG LG cG) LG (evs LG fG)) (oH : w.ownsRow B 44 26 (.slice PH LH cH) LH (evs LH fH)) :
    Calls Tryd.prog 7 #[.agg (hdl y0 y1 y2 ++ [Value.slice PG LG cG, Value.slice PH LH cH]).toArray, .int .i64 (F : Int), .int .i64 (M : Int)] w fun e w' => ∃ (P1 P2 : Option Addr) (c1 c2 : Nat), e = .returned (.tuple #[.agg (hdl y0 y1 y2 ++ [Value.slice P1 M c1, Value.slice P2 M c2]).toArray, .int .i64 0]) ∧ w'.ownsRow w.heap.size 44 26 (.slice P1 M c1) M (evs M fun k => fG (F + k)) ∧ w'.ownsRow w.heap.size 44 26 (.slice P2 M c2) M (evs M fun k => fH (F + k)) ∧ Below w.heap.size w w' := by
  obtain ⟨cs, hcs⟩ : ∃ l, l = (hdl y0 y1 y2 ++ [Value.slice PG LG cG, Value.slice PH LH cH]) := ⟨_, rfl⟩
  rw [← hcs]
  have M1 := (Bx1.new w cs 47).keep (bl_alloc _ (.cells zs.toArray 47)) (show w.heap.size < (w.alloc (.cells cs.toArray 47)).heap.size by simp)
  have M2 := Bx1.new (w.alloc (.cells cs.toArray 47)) zs 47
  simp only [World.size_alloc] at M2
  have B0 := bl_alloc2 w (.cells cs.toArray 47) (.cells zs.toArray 47)
  have SZ : ((w.alloc (.cells cs.toArray 47)).alloc (.cells zs.toArray 47)).heap.size = w.heap.size + 2 := by simp
  generalize hW : (w.alloc (.cells cs.toArray 47)).alloc (.cells zs.toArray 47) = W at M1 M2 B0 SZ
  have hzv := zv81
  have KT := hidden (k3_of M1.r hcs)
  have e79 := KT.out.1
  have e80 := KT.out.2.1
  have e0 : W.cell? ⟨w.heap.size, 0, none⟩ = some (.int .i64 2) := by have := M1.r 0 (.int .i64 2) (by rw [hcs]; rfl); simpa using this
  obtain ⟨bg, hbg⟩ : ∃ l, l = (hdl y0 y1 y2 ++ [Value.slice none 0 0, Value.slice none 0 0]) := ⟨_, rfl⟩
  have hbl : bg.length = zs.length := by rw [hbg]; rfl
  have I8 : Hid ((Tryd.prog.info? 47).map (·.size) = some bg.toArray.size) := hidden (by rw [hbg]; exact sinfo81)
  have O8 : Hid (bg.toArray.all (·.oneCell') = true) := hidden (by rw [hbg]; exact hdl_oneW _ _ _ none none 0 0 0 0)
  have T8 : Hid ((W.alloc (.cells zs.toArray 47)).there (w.heap.size + 2) 0 bg.toArray.size) := hidden (by
    have := (Bx1.new W zs 47).t
    rw [SZ] at this
    have e : bg.toArray.size = zs.length := by rw [List.size_toArray]; exact hbl
    rw [e]
    exact this)
  have UE : Hid (Tryd.prog.underlying 44 = _) := hidden Tryd.underlying44
  have IE0 := hidden (el_i y0)
  have IE1 := hidden (el_i y1)
  have IE2 := hidden (el_i y2)
  have HBG := hidden hbg
  have M8 : Hid (Bx1 ((W.alloc (.cells zs.toArray 47)).setCells (w.heap.size + 2) 0 bg) (w.heap.size + 2) bg) := hidden (by
    have := (Bx1.new W zs 47).set (ds := bg) hbl
    rw [SZ] at this
    exact this)
  have B3 : Hid (Below W.heap.size W ((W.alloc (.cells zs.toArray 47)).setCells (w.heap.size + 2) 0 bg)) := hidden (below_setCellsM (w0 := W) (w.heap.size + 2) bg 0 (bl_alloc W _) (by omega))
  have S3 : Hid (((W.alloc (.cells zs.toArray 47)).setCells (w.heap.size + 2) 0 bg).heap.size = w.heap.size + 3) := hidden (by rw [size_setCellsM]; simp; omega)
  have HM1 := hidden M1
  have HM2 := hidden M2
  have HB0 := hidden B0
  have HOG := hidden oG
  have HOH := hidden oH
  have HG := hidden hG
  have HH := hidden hH
  have HFG := hidden hFG
  have HFH := hidden hFH
  have f0 : ¬ (F : Int) < 0 := by omega
  have n0 : ¬ (M : Int) < 0 := by omega
  have w1 : IntKind.i64.wrap ((LG : Int) - (M : Int)) = (LG : Int) - (M : Int) := IntWalk.i64_in _ (by omega)
  have w2 : IntKind.i64.wrap ((LH : Int) - (M : Int)) = (LH : Int) - (M : Int) := IntWalk.i64_in _ (by omega)
  have c1 : ¬ (LG : Int) < (M : Int) := by omega
  have c2 : ¬ (LH : Int) < (M : Int) := by omega
  have c3 : ¬ (LG : Int) - (M : Int) < (F : Int) := by omega
  have c4 : ¬ (LH : Int) - (M : Int) < (F : Int) := by omega
  have HCS := hidden hcs
  clear hcs hbg hbl M1 M2 B0 oG oH hG hH hFG hFH
  have hsz : W.heap.size = w.heap.size + 2 := SZ
  go_enter Tryd.func7, Tryd.ntmps7
  go_upto_region 6 with (first | refine wpList_loadG (by rfl) 44 _ rfl w.heap.size 1 (by rfl) (el y0) _ KT.out.2.2.1 UE.out rfl IE0.out ?_ | refine wpList_loadG (by rfl) 44 _ rfl w.heap.size 27 (by rfl) (el y1) _ KT.out.2.2.2.1 UE.out rfl IE1.out ?_ | refine wpList_loadG (by rfl) 44 _ rfl w.heap.size 53 (by rfl) (el y2) _ KT.out.2.2.2.2 UE.out rfl IE2.out ?_ | refine wpList_buildC rfl 47 _ rfl bg.toArray (by rw [HBG.out]; kernel_rfl) ?_ | (refine wpList_store_mid rfl 47 _ _ rfl (w.heap.size + 2) 0 bg.toArray (by rfl) (by rfl) T8.out I8.out O8.out ?_; rw [List.toList_toArray]))
  clear T8 I8 O8 IE0 IE1 IE2 e0 f0 n0 w1 w2 c1 c2 c3 c4 KT e79 e80
  generalize (W.alloc (.cells zs.toArray 47)).setCells (w.heap.size + 2) 0 bg = W3 at M8 B3 S3 ⊢
  have BW3 := hidden (bl_trans HB0.out B3.out)
  have K3a := hidden (HM1.out.keep B3.out (by omega))
  have K3b := hidden (HM2.out.keep B3.out (by omega))
  have c79 : W3.cell? ⟨w.heap.size, 79, none⟩ = some (.slice PG LG cG) := K3a.out.c (by rw [HCS.out]; rfl)
  have d79 : W3.cell? ⟨w.heap.size + 2, 79, none⟩ = some (.slice none 0 0) := M8.out.c (by rw [HBG.out]; rfl)
  have l79 : 79 < bg.length := by rw [HBG.out, List.length_append, hdl_len]; simp
  have l80 : 80 < bg.length := by rw [HBG.out, List.length_append, hdl_len]; simp
  refine rp6 _ w.heap.size (w.heap.size + 2) F M LG cG B PG fG _ _ _ _ _ _ _ _ _ _ _ _ _ _ _ _ _ _ _ _ _ _ _ _ _ _ _ _ _ _ _ _ _ _ _ _ _ _ _ _ _ _ _ _ _ _ _ _ _ _ _ _ _ _ _ _ _ _ _ _ _ _ _ _ _ _ _ _ _ _ _ _ _ _ _ W3 HG.out HFG.out (own_keepL HOG.out BW3.out) c79 d79 (M8.out.f l79) (hidden (fun z0 z1 z2 z3 z4 z5 z6 z7 z8 z9 z10 v' w5 ho hb => ?_))
  obtain ⟨P1, c1, rfl⟩ := own_shapeP8 ho
  have M8b := hidden ((M8.out.keep hb (by have := S3.out; omega)).setCell 79 (.slice P1 M c1) l79)
  have K5a := hidden ((K3a.out.keep hb (by have := S3.out; omega)).far 79 (.slice P1 M c1) (show w.heap.size + 2 ≠ w.heap.size by omega))
  have K5b := hidden ((K3b.out.keep hb (by have := S3.out; omega)).far 79 (.slice P1 M c1) (show w.heap.size + 2 ≠ w.heap.size + 1 by omega))
  have O1 := hidden (own_setW (b := w.heap.size + 2) (o := 79) ho (by have := S3.out; omega) (.slice P1 M c1))
  have B5 := hidden (below_setW (b := w.heap.size + 2) (o := 79) (bl_trans BW3.out hb) (by omega) (.slice P1 M c1))
  have S5 : Hid (w.heap.size + 3 ≤ (w5.setCell ⟨w.heap.size + 2, 79, none⟩ (.slice P1 M c1)).heap.size) := hidden (by have := S3.out; have := hb.size; simp; omega)
  clear ho hb M8 K3a K3b c79 d79 B3
  generalize w5.setCell ⟨w.heap.size + 2, 79, none⟩ (.slice P1 M c1) = W5 at M8b K5a K5b O1 B5 S5 ⊢
  clear BW3
  go_upto_region 7 with fail
  have c80 : W5.cell? ⟨w.heap.size, 80, none⟩ = some (.slice PH LH cH) := K5a.out.c (by rw [HCS.out]; rfl)
  have d80 : W5.cell? ⟨w.heap.size + 2, 80, none⟩ = some (.slice none 0 0) := M8b.out.c (by rw [HBG.out]; rfl)
  refine rp7 _ w.heap.size (w.heap.size + 2) F M LH cH B PH fH _ _ _ _ _ _ _ _ _ _ _ _ _ _ _ _ _ _ _ _ _ _ _ _ _ _ _ _ _ _ _ _ _ _ _ _ _ _ _ _ _ _ _ _ _ _ _ _ _ _ _ _ _ _ _ _ _ _ _ _ _ _ _ _ _ _ _ _ _ _ _ _ _ _ _ W5 HH.out HFH.out (own_keepL HOH.out B5.out) c80 d80 (M8b.out.f (by rw [List.length_set]; exact l80)) (hidden (fun z0 z1 z2 z3 z4 z5 z6 z7 z8 z9 z10 v' w7 ho hb => ?_))
  obtain ⟨P2, c2, rfl⟩ := own_shapeP8 ho
  obtain ⟨fin, hfin⟩ : ∃ l, l = hdl y0 y1 y2 ++ [Value.slice P1 M c1, Value.slice P2 M c2] := ⟨_, rfl⟩
  have hset : (bg.set 79 (.slice P1 M c1)).set 80 (.slice P2 M c2) = fin := by rw [HBG.out, hfin]; rfl
  have M8c := hidden ((M8b.out.keep hb (by have := S5.out; omega)).setCell 80 (.slice P2 M c2) (by rw [List.length_set]; exact l80))
  rw [hset] at M8c
  have K7b := hidden ((K5b.out.keep hb (by have := S5.out; omega)).far 80 (.slice P2 M c2) (show w.heap.size + 2 ≠ w.heap.size + 1 by omega))
  have O1b := hidden (own_setW (b := w.heap.size + 2) (o := 80) (own_keepL O1.out hb) (by have := S3.out; omega) (.slice P2 M c2))
  have O2 := hidden (own_setW (b := w.heap.size + 2) (o := 80) ho (by have := S5.out; omega) (.slice P2 M c2))
  have B7 := hidden (below_setW (b := w.heap.size + 2) (o := 80) (bl_trans B5.out hb) (by omega) (.slice P2 M c2))
  clear ho hb M8b K5a K5b O1 B5 c80 d80
  generalize w7.setCell ⟨w.heap.size + 2, 80, none⟩ (.slice P2 M c2) = W7 at M8c K7b O1b O2 B7 ⊢
  have hfl : fin.length = zs.length := by rw [hfin]; rfl
  have I81 : Hid ((Tryd.prog.info? 47).map (·.size) = some fin.length) := hidden (by rw [hfin]; exact sinfo81)
  have I81a : Hid ((Tryd.prog.info? 47).map (·.size) = some fin.toArray.size) := hidden (by rw [hfin]; exact sinfo81)
  have OF : Hid (fin.toArray.all (·.oneCell') = true) := hidden (by rw [hfin]; exact hdl_oneW _ _ _ _ _ _ _ _ _)
  have US : Hid (Tryd.prog.underlying 47 = _) := hidden Tryd.underlying47
  have T6 : Hid (W7.there (w.heap.size + 1) 0 fin.toArray.size) := hidden (by
    have e : fin.toArray.size = zs.length := by rw [List.size_toArray]; exact hfl
    rw [e]
    exact K7b.out.t)
  have MS := hidden (K7b.out.set (ds := fin) hfl)
  have LD := hidden (run_loadVar_mid (P := Tryd.prog) _ (w.heap.size + 1) 0 47 fin _ MS.out.r US.out rfl I81.out)
  have BF := hidden (below_setCellsM (w0 := w) (w.heap.size + 1) fin 0 B7.out (by omega))
  have OF1 := hidden (own_less (own_setCells O1b.out (b := w.heap.size + 1) (by have := S3.out; omega) fin) (C := w.heap.size) (by have := S3.out; omega))
  have OF2 := hidden (own_less (own_setCells O2.out (b := w.heap.size + 1) (by have := S5.out; omega) fin) (C := w.heap.size) (by have := S5.out; omega))
  have HF := hidden hfin
  clear hfin hset hfl
  go_wp2_with (first | refine wpList_loadG (by rfl) 47 _ rfl (w.heap.size + 2) 0 (by rfl) fin _ M8c.out.r US.out rfl I81.out ?_ | (refine wpList_store_mid rfl 47 _ _ rfl (w.heap.size + 1) 0 fin.toArray (by rfl) (by rfl) T6.out I81a.out OF.out ?_; rw [List.toList_toArray]))
  refine bodyPost_ret (v := .tuple #[.agg fin.toArray, .int .i64 0]) (results_tupM Tryd.results7 _ _ _ _ _ _ (by rfl) (by rfl) LD.out) rfl ⟨P1, P2, c1, c2, by rw [HF.out], OF1.out, OF2.out, BF.out⟩
end Go.Proofs.YtlijigolfggcfaaDoor
