/-
  Going the other way, left and right are exchanged: the walls of the reversed leg over the mirrored passages. Pure.
  The program's reverse of a leg (LgK's, where the model's reverse is not at hand).
  Four shifts compared with themselves, by value.
  The contracts of FnWalls in letters; what it asks of the answers.
  What FnWalls asks of the walls of the way back, with the sums as the program makes them.
  Conditions: those that each theorem names.
-/
import Derived.Test.YtnpghhpcloljeaaDoorPwY0
import Derived.Test.YtnpghhpcloljeaaDoorLgR
import Derived.Test.YtnpghhpcloljeaaDoorLgI
import Derived.Test.YtnpghhpcloljeaaDoorBear
import Derived.Deep.DeepCutAuto
import Derived.Deep.RegionWith
import Derived.Deep.QuietTactic
import Derived.BigQuiet
import Derived.Test.YtnpghhpcloljeaaDoorProg
import Derived.WalkKit
import Derived.Lib.Hide
import Derived.Laws.StructEq
import Derived.ChangeKeysEq
import Derived.Test.YtnpghhpcloljeaaDoorPwY2
import Derived.Test.YtnpghhpcloljeaaDoorPwY3
import Derived.Test.YtnpghhpcloljeaaDoorPwC
import Derived.Test.YtnpghhpcloljeaaDoorPwP
import Derived.Test.YtnpghhpcloljeaaDoorPwI
import Derived.Test.YtnpghhpcloljeaaDoorPwK
import Derived.Test.YtnpghhpcloljeaaDoorPwQ
import Derived.Test.YtnpghhpcloljeaaDoorLgM
namespace Go.Proofs.YtnpghhpcloljeaaDoor.wz
open Go.RowKit
open base ty lg pw
set_option linter.unusedVariables false
set_option linter.unusedSimpArgs false

set_option maxRecDepth 100000 in
theorem sin_half : ∀ k : Fin 360, sn.sinZ (((k.val : Int) + 180) % 360) = - sn.sinZ (k.val : Int) ∧ sn.cosZ (((k.val : Int) + 180) % 360) = - sn.cosZ (k.val : Int) := by decide +kernel
set_option maxRecDepth 100000 in
theorem sin_flip : ∀ k : Fin 181, sn.sinZ (-((k.val : Int) - 90)) = - sn.sinZ ((k.val : Int) - 90) ∧ sn.cosZ (-((k.val : Int) - 90)) = sn.cosZ ((k.val : Int) - 90) := by decide +kernel
theorem fin_comp {c : Int} (h0 : 0 ≤ c) (h1 : c ≤ 359) : ∃ k : Fin 360, (k.val : Int) = c := ⟨⟨c.toNat, by omega⟩, by show ((c.toNat : Nat) : Int) = c; omega⟩
theorem fin_slope {c : Int} (h0 : -90 ≤ c) (h1 : c ≤ 90) : ∃ k : Fin 181, (k.val : Int) - 90 = c := ⟨⟨(c + 90).toNat, by omega⟩, by show (((c + 90).toNat : Nat) : Int) - 90 = c; omega⟩
theorem rdiv_neg (a : Int) : sn.rdiv (-a) 1000 = - sn.rdiv a 1000 := by unfold sn.rdiv; split <;> split <;> omega
/-- the shift of the reverse is the opposite one -/
theorem shf_rev {x : Lg} (h : okLg x = true) : shf (revLg x) = ⟨-(shf x).east, -(shf x).north, -(shf x).up⟩ := by
  obtain ⟨-, -, -, -, ⟨c0, c1⟩, s0, s1⟩ := okLg_lim h
  obtain ⟨k, hk⟩ := fin_comp c0 c1
  obtain ⟨j, hj⟩ := fin_slope s0 s1
  have a := sin_half k
  have b := sin_flip j
  rw [hk] at a
  rw [hj] at b
  have hl : level (revLg x) = level x := by
    show sn.rdiv (x.tape * sn.cosZ (-x.slope)) 1000 = sn.rdiv (x.tape * sn.cosZ x.slope) 1000
    rw [b.2]
  unfold shf
  rw [hl]
  show (⟨sn.rdiv (level x * sn.sinZ ((x.comp + 180) % 360)) 1000, sn.rdiv (level x * sn.cosZ ((x.comp + 180) % 360)) 1000, sn.rdiv (x.tape * sn.sinZ (-x.slope)) 1000⟩ : Sf) = _
  rw [a.1, a.2, b.1, Int.mul_neg, Int.mul_neg, Int.mul_neg, rdiv_neg, rdiv_neg, rdiv_neg]
/-- a wall's shift depends on the bearing's remainder alone -/
theorem sinZ_mod {a b : Int} (h : a % 360 = b % 360) : sn.sinZ a = sn.sinZ b := by unfold sn.sinZ; rw [h]
theorem cosZ_mod {a b : Int} (h : a % 360 = b % 360) : sn.cosZ a = sn.cosZ b := by unfold sn.cosZ; exact sinZ_mod (by omega)
theorem walS_mod {a b : Int} (f : Int) (h : a % 360 = b % 360) : walS f a = walS f b := by unfold walS; rw [sinZ_mod h, cosZ_mod h]
/-- the mirrored list -/
theorem fdN_mir : ∀ (ts : List Pg) (s : Int), fdN (ts.map mirPg) s = fdN ts s
  | [], s => rfl
  | p :: ts, s => by
    show (if (mirPg p).st = s then 0 else fdN (ts.map mirPg) s + 1) = (if p.st = s then 0 else fdN ts s + 1)
    rw [fdN_mir ts s]; rfl
theorem pgAt_mir (ts : List Pg) (s : Int) : pgAt (ts.map mirPg) s = (pgAt ts s).map mirPg := by unfold pgAt; rw [fdN_mir, List.getElem?_map]
theorem hasP_mir (ts : List Pg) (s : Int) : hasP (ts.map mirPg) s = hasP ts s := by unfold hasP; rw [pgAt_mir]; cases pgAt ts s <;> rfl
theorem pgZ_mir {ts : List Pg} {s : Int} (h : hasP ts s = true) : pgZ (ts.map mirPg) s = mirPg (pgZ ts s) := by
  have a := hasP_at h
  have b := hasP_at (ts := ts.map mirPg) (s := s) (by rw [hasP_mir]; exact h)
  rw [pgAt_mir, a] at b
  exact (Option.some.inj b).symm
theorem ok_mir (p : Pg) : okPg (mirPg p) = okPg p := mirPg_ok p
theorem upAt_mir (ts : List Pg) (i : Nat) : upAt (ts.map mirPg) i = upAt ts i := by
  unfold upAt
  rw [List.getElem?_map, List.getElem?_map]
  cases ts[i]? with
  | none => rfl
  | some p =>
    show (okPg (mirPg p) && _) = (okPg p && _)
    rw [ok_mir]
    cases ts[i - 1]? <;> rfl
theorem good_mir (ts : List Pg) : goodPg (ts.map mirPg) = goodPg ts := by
  unfold goodPg upTo
  rw [List.length_map, show upAt (ts.map mirPg) = upAt ts from funext (upAt_mir ts)]
theorem waOk_back {ts : List Pg} {x : Lg} (h : waOk ts x = true) : waOk (ts.map mirPg) (revLg x) = true := by
  unfold waOk at h ⊢
  simp only [Bool.and_eq_true] at h ⊢
  obtain ⟨⟨⟨a, b⟩, c⟩, d⟩ := h
  exact ⟨⟨⟨by rw [good_mir]; exact a, revLg_ok b⟩, by rw [hasP_mir]; exact d⟩, by rw [hasP_mir]; exact c⟩
/-- the wall of the leg is the opposite wall of the way back, moved by the leg's shift -/
theorem walls_back {ts : List Pg} {x : Lg} (h : waOk ts x = true) : waV ts x = ⟨add3 (waV (ts.map mirPg) (revLg x)).d (shf x), add3 (waV (ts.map mirPg) (revLg x)).c (shf x), add3 (waV (ts.map mirPg) (revLg x)).b (shf x), add3 (waV (ts.map mirPg) (revLg x)).a (shf x)⟩ := by
  have hb := waOk_back h
  unfold waV
  rw [h, hb]
  have h' := h
  unfold waOk at h'
  simp only [Bool.and_eq_true] at h'
  obtain ⟨⟨⟨_, ho⟩, u1⟩, u2⟩ := h'
  show walls (pgZ ts x.frm) (pgZ ts x.to_) x = ⟨add3 (walls (pgZ (ts.map mirPg) x.to_) (pgZ (ts.map mirPg) x.frm) (revLg x)).d (shf x), add3 (walls (pgZ (ts.map mirPg) x.to_) (pgZ (ts.map mirPg) x.frm) (revLg x)).c (shf x), add3 (walls (pgZ (ts.map mirPg) x.to_) (pgZ (ts.map mirPg) x.frm) (revLg x)).b (shf x), add3 (walls (pgZ (ts.map mirPg) x.to_) (pgZ (ts.map mirPg) x.frm) (revLg x)).a (shf x)⟩
  rw [pgZ_mir u1, pgZ_mir u2]
  unfold walls
  rw [shf_rev ho]
  obtain ⟨e, n, u⟩ := shf x
  have m1 : walS (mirPg (pgZ ts x.to_)).lf ((revLg x).comp - 90) = walS (pgZ ts x.to_).rt (x.comp + 90) := walS_mod _ (by show ((x.comp + 180) % 360 - 90) % 360 = _; omega)
  have m2 : walS (mirPg (pgZ ts x.to_)).rt ((revLg x).comp + 90) = walS (pgZ ts x.to_).lf (x.comp - 90) := walS_mod _ (by show ((x.comp + 180) % 360 + 90) % 360 = _; omega)
  have m3 : walS (mirPg (pgZ ts x.frm)).lf ((revLg x).comp - 90) = walS (pgZ ts x.frm).rt (x.comp + 90) := walS_mod _ (by show ((x.comp + 180) % 360 - 90) % 360 = _; omega)
  have m4 : walS (mirPg (pgZ ts x.frm)).rt ((revLg x).comp + 90) = walS (pgZ ts x.frm).lf (x.comp - 90) := walS_mod _ (by show ((x.comp + 180) % 360 + 90) % 360 = _; omega)
  rw [m1, m2, m3, m4]
  obtain ⟨a0, a1, a2⟩ := walS (pgZ ts x.frm).lf (x.comp - 90)
  obtain ⟨b0, b1, b2⟩ := walS (pgZ ts x.frm).rt (x.comp + 90)
  obtain ⟨c0, c1, c2⟩ := walS (pgZ ts x.to_).lf (x.comp - 90)
  obtain ⟨d0, d1, d2⟩ := walS (pgZ ts x.to_).rt (x.comp + 90)
  simp only [add3, Wl.mk.injEq, Sf.mk.injEq]
  refine ⟨⟨?_, ?_, ?_⟩, ⟨?_, ?_, ?_⟩, ⟨?_, ?_, ?_⟩, ⟨?_, ?_, ?_⟩⟩ <;> omega
end Go.Proofs.YtnpghhpcloljeaaDoor.wz

namespace Go.Proofs.YtnpghhpcloljeaaDoor.lgi
open Go.RowKit
open reads base ty win lg
set_option linter.unusedVariables false
set_option linter.unusedSimpArgs false

set_option maxHeartbeats 4000000 in
set_option maxRecDepth 100000 in
theorem rvp_any (x : Lg) (w : World) (c0 : 0 ≤ x.comp) (c1 : x.comp ≤ 100000) (s0 : -1000 ≤ x.slope) (s1 : x.slope ≤ 1000) : Calls Tryd.prog 43 #[.agg #[.int .i64 x.frm, .int .i64 x.to_, .int .i64 x.tape, .int .i64 x.comp, .int .i64 x.slope]] w (APost (.agg #[.int .i64 (revLg x).frm, .int .i64 (revLg x).to_, .int .i64 (revLg x).tape, .int .i64 (revLg x).comp, .int .i64 (revLg x).slope]) w) := by
  have HR := Lib.hid (show revLg x = ⟨x.to_, x.frm, x.tape, (x.comp + 180) % 360, -x.slope⟩ from rfl)
  obtain ⟨r, HC⟩ : ∃ r, Hid ((x.comp + 180) % 360 = r) := ⟨_, Lib.hid rfl⟩
  rw [HC.out] at HR
  rw [HR.out]
  go_enter Tryd.func43, Tryd.ntmps43
  go_wp2_with fail
  go_region
  go_wp2_with fail
  refine (bearingOf_is (x.comp + 180) r HC _ (by omega) (by omega)).mono ?_
  rintro e w' ⟨rfl, rfl⟩
  go_wp2_with fail
  refine bodyPost_ret (v := .agg #[.int .i64 x.to_, .int .i64 x.frm, .int .i64 x.tape, .int .i64 r, .int .i64 (-x.slope)]) (by simp [results, Tryd.results43, go_sem]) rfl ⟨rfl, ?_⟩
  have h := (((Below.refl w.heap.size w).alloc (Nat.le_refl _) (.cells #[.int .i64 x.frm, .int .i64 x.to_, .int .i64 x.tape, .int .i64 x.comp, .int .i64 x.slope] 33)).alloc (by simp) (.cells #[.int .i64 x.to_, .int .i64 x.frm, .int .i64 x.tape, .int .i64 r, .int .i64 (-x.slope)] 33)).alloc (by simp; omega) (.cells #[.int .i64 x.to_, .int .i64 x.frm, .int .i64 x.tape, .int .i64 r, .int .i64 (-x.slope)] 33)
  exact h.trans ((drewN_below _ 1).mono h.size)
theorem rvp_is (x y : Lg) (h : Hid (revLg x = y)) (w : World) (c0 : 0 ≤ x.comp) (c1 : x.comp ≤ 100000) (s0 : -1000 ≤ x.slope) (s1 : x.slope ≤ 1000) : Calls Tryd.prog 43 #[.agg #[.int .i64 x.frm, .int .i64 x.to_, .int .i64 x.tape, .int .i64 x.comp, .int .i64 x.slope]] w (APost (.agg #[.int .i64 y.frm, .int .i64 y.to_, .int .i64 y.tape, .int .i64 y.comp, .int .i64 y.slope]) w) := by rw [← h.out]; exact rvp_any x w c0 c1 s0 s1
set_option maxHeartbeats 4000000 in
set_option maxRecDepth 100000 in
theorem rvp_impl (x : Lg) (w : World) : Calls Tryd.prog 15 #[.agg #[.int .i64 x.frm, .int .i64 x.to_, .int .i64 x.tape, .int .i64 x.comp, .int .i64 x.slope]] w (APost (ansRev x) w) := by
  cases hx : okLg x
  · have HA := Lib.hid (show ansRev x = .tuple #[.agg #[.int .i64 0, .int .i64 0, .int .i64 0, .int .i64 0, .int .i64 0], .bool false] by unfold ansRev; rw [hx]; rfl)
    have HX := Lib.hid hx
    clear hx
    rw [HA.out]
    go_enter Tryd.func15, Tryd.ntmps15
    go_wp2_with fail
    refine (isLeg_is x false HX _).mono ?_
    rintro e w1 ⟨rfl, b1⟩
    obtain ⟨hc1, hf1⟩ := bcell b1
    have hz : w.heap.size + 2 ≤ w1.heap.size := by have := b1.size; simp at this; omega
    have hz0 : w.heap.size < w1.heap.size := by omega
    have hz1 : w.heap.size + 1 < w1.heap.size := by omega
    have HB := Lib.hid ((((Below.refl w.heap.size w).alloc (Nat.le_refl _) _).alloc (by simp) _).trans (b1.mono (by simp; omega)))
    clear b1
    go_wp2_with fail
    refine bodyPost_ret (v := .tuple #[.agg #[.int .i64 0, .int .i64 0, .int .i64 0, .int .i64 0, .int .i64 0], .bool false]) (by simp [results, Tryd.results15, go_sem, hc1]) rfl ⟨rfl, ?_⟩
    exact ((((HB.out.setCell (by simp) _).setCell (by simp) _).setCell (by simp) _).setCell (by simp) _).setCell (by simp) _
  · obtain ⟨y, hy⟩ : ∃ y, revLg x = y := ⟨_, rfl⟩
    have HA := Lib.hid (show ansRev x = .tuple #[.agg #[.int .i64 y.frm, .int .i64 y.to_, .int .i64 y.tape, .int .i64 y.comp, .int .i64 y.slope], .bool true] by unfold ansRev; rw [hx, hy]; rfl)
    obtain ⟨-, -, -, -, ⟨c0, c1⟩, s0, s1⟩ := okLg_lim hx
    have HX := Lib.hid hx
    have HY := Lib.hid hy
    clear hx hy
    rw [HA.out]
    go_enter Tryd.func15, Tryd.ntmps15
    go_wp2_with fail
    refine (isLeg_is x true HX _).mono ?_
    rintro e w1 ⟨rfl, b1⟩
    obtain ⟨hc1, hf1⟩ := bcell b1
    have hz : w.heap.size + 2 ≤ w1.heap.size := by have := b1.size; simp at this; omega
    have hz0 : w.heap.size < w1.heap.size := by omega
    have hz1 : w.heap.size + 1 < w1.heap.size := by omega
    have HB := Lib.hid ((((Below.refl w.heap.size w).alloc (Nat.le_refl _) _).alloc (by simp) _).trans (b1.mono (by simp; omega)))
    clear b1
    go_wp2_with fail
    refine (rvp_is x y HY _ c0 (by omega) (by omega) (by omega)).mono ?_
    rintro e w2 ⟨rfl, b2⟩
    obtain ⟨hc2, hf2⟩ := bcell b2
    have hz2 : w1.heap.size ≤ w2.heap.size := b2.size
    have HB2 := Lib.hid (HB.out.trans (b2.mono HB.out.size))
    clear b2
    go_wp2_with fail
    refine bodyPost_ret (v := .tuple #[.agg #[.int .i64 y.frm, .int .i64 y.to_, .int .i64 y.tape, .int .i64 y.comp, .int .i64 y.slope], .bool true]) (by simp [results, Tryd.results15, go_sem, *]) rfl ⟨rfl, ?_⟩
    exact ((((HB2.out.setCell (by simp) _).setCell (by simp) _).setCell (by simp) _).setCell (by simp) _).setCell (by simp) _
end Go.Proofs.YtnpghhpcloljeaaDoor.lgi

namespace Go.Proofs.YtnpghhpcloljeaaDoor.wpw
open Go.RowKit
set_option linter.unusedVariables false
set_option linter.unusedSimpArgs false

theorem und4 : Tryd.prog.underlying 28 = some (.array 4 27) := by kernel_rfl
theorem part_sft (xs : Array Value) (off : Nat) (w : World) : (part 27 xs off).run Tryd.prog w = .ok (.agg (xs.extract off (off + 3))) w := by
  obtain ⟨i, hi⟩ : ∃ i, Tryd.prog.info? 27 = some i := by
    have h : (Tryd.prog.info? 27).isSome = true := by kernel_rfl
    exact Option.isSome_iff_exists.1 h
  have hc : Tryd.prog.cellsOf 27 = 3 := by kernel_rfl
  have hs : Tryd.prog.underlying 27 = some (.struct (Tryd.prog.fieldsOf 27)) := by kernel_rfl
  simp [part, isAgg, run_underlying hs, run_sizeOf w hi, hc]
theorem eq_sft (d : Nat) (a b c : Int) (w : World) : (Op.equalIn (d + 2) 27 (.agg #[.int .i64 a, .int .i64 b, .int .i64 c]) (.agg #[.int .i64 a, .int .i64 b, .int .i64 c])).run Tryd.prog w = .ok true w := by
  go_simp
theorem eq_four (a b c d e f g h i j k l : Int) (w : World) : (Op.equalIn 10000 28 (.agg #[.int .i64 a, .int .i64 b, .int .i64 c, .int .i64 d, .int .i64 e, .int .i64 f, .int .i64 g, .int .i64 h, .int .i64 i, .int .i64 j, .int .i64 k, .int .i64 l]) (.agg #[.int .i64 a, .int .i64 b, .int .i64 c, .int .i64 d, .int .i64 e, .int .i64 f, .int .i64 g, .int .i64 h, .int .i64 i, .int .i64 j, .int .i64 k, .int .i64 l])).run Tryd.prog w = .ok true w := by
  obtain ⟨i0, hi⟩ : ∃ i, Tryd.prog.info? 27 = some i := by
    have h : (Tryd.prog.info? 27).isSome = true := by kernel_rfl
    exact Option.isSome_iff_exists.1 h
  have hc : Tryd.prog.cellsOf 27 = 3 := by kernel_rfl
  rw [show (10000 : Nat) = 9999 + 1 from rfl, run_equalIn_array w 9999 _ _ und4 hi, hc]
  rw [show List.range 4 = [0, 1, 2, 3] from rfl, show (9999 : Nat) = 9997 + 2 from rfl]
  simp [Op.eqItems, Sem.run_bind, part_sft, eq_sft]
end Go.Proofs.YtnpghhpcloljeaaDoor.wpw

namespace Go.Proofs.YtnpghhpcloljeaaDoor.wpw
open Go.RowKit
open reads base ty lg pw wz
set_option linter.unusedVariables false
set_option linter.unusedSimpArgs false

section
variable {A : Option Addr} {n cap : Nat} {ts : List Pg} {x : Lg} {y : Pg} {v : Value} {a : Int} {w : World}
theorem wa_i (h0 : Hid (ansWa ts x = v)) (hn : n ≤ 2000000) (hts : Hid (PgAt w w.heap.size A n ts)) (hT : Hid (win.Tab w)) : Calls Tryd.prog 9 #[.slice A n cap, .agg #[.int .i64 x.frm, .int .i64 x.to_, .int .i64 x.tape, .int .i64 x.comp, .int .i64 x.slope]] w (APost v w) := by
  rw [← h0.out]; exact walls_impl A n cap ts x w hn hts hT
theorem mi_i (h0 : Hid (ansMi y = v))  : Calls Tryd.prog 14 #[.agg #[.int .i64 y.st, .int .i64 y.lf, .int .i64 y.rt, .int .i64 y.ab, .int .i64 y.be]] w (APost v w) := by
  rw [← h0.out]; exact mirror_impl y w
theorem aa_i (h0 : Hid (ansAa ts a = v)) (hn : n ≤ 2000000) (hts : Hid (PgAt w w.heap.size A n ts)) : Calls Tryd.prog 20 #[.slice A n cap, .int .i64 a] w (APost v w) := by
  rw [← h0.out]; exact areaAt_impl A n cap ts a w hn hts
theorem wp_i (h0 : Hid (ansWp ts = v)) (hn : n ≤ 2000000) (hts : Hid (PgAt w w.heap.size A n ts)) : Calls Tryd.prog 23 #[.slice A n cap] w (APost v w) := by
  rw [← h0.out]; exact widest_impl A n cap ts w hn hts
theorem wa_m (h0 : Hid (ansWa ts x = v)) (hn : n ≤ 2000000) (hts : Hid (PgAt w w.heap.size A n ts)) : Calls Tryd.prog 6 #[.slice A n cap, .agg #[.int .i64 x.frm, .int .i64 x.to_, .int .i64 x.tape, .int .i64 x.comp, .int .i64 x.slope]] w (APost v w) := by
  rw [← h0.out]; exact walls_model A n cap ts x w hn hts
theorem mi_m (h0 : Hid (ansMi y = v))  : Calls Tryd.prog 18 #[.agg #[.int .i64 y.st, .int .i64 y.lf, .int .i64 y.rt, .int .i64 y.ab, .int .i64 y.be]] w (APost v w) := by
  rw [← h0.out]; exact mirror_model y w
theorem aa_m (h0 : Hid (ansAa ts a = v)) (hn : n ≤ 2000000) (hts : Hid (PgAt w w.heap.size A n ts)) : Calls Tryd.prog 21 #[.slice A n cap, .int .i64 a] w (APost v w) := by
  rw [← h0.out]; exact areaAt_model A n cap ts a w hn hts
theorem wp_m (h0 : Hid (ansWp ts = v)) (hn : n ≤ 2000000) (hts : Hid (PgAt w w.heap.size A n ts)) : Calls Tryd.prog 24 #[.slice A n cap] w (APost v w) := by
  rw [← h0.out]; exact widest_model A n cap ts w hn hts
theorem rv_i (h0 : Hid (ansRev x = v))  : Calls Tryd.prog 15 #[.agg #[.int .i64 x.frm, .int .i64 x.to_, .int .i64 x.tape, .int .i64 x.comp, .int .i64 x.slope]] w (APost v w) := by
  rw [← h0.out]; exact lgi.rvp_impl x w
theorem sf_i (h0 : Hid (ansShift x = v))  (hT : Hid (win.Tab w)) : Calls Tryd.prog 16 #[.agg #[.int .i64 x.frm, .int .i64 x.to_, .int .i64 x.tape, .int .i64 x.comp, .int .i64 x.slope]] w (APost v w) := by
  rw [← h0.out]; exact lgi.shiftOf_impl x w hT
end
/-- walls, and what the law asks of them: the way back gives letters z, the leg its shift s -/
theorem wa_form (ts : List Pg) (x : Lg) : ∃ (y : Wl) (ok : Bool), ansWa ts x = .tuple #[.agg #[.int .i64 y.a.east, .int .i64 y.a.north, .int .i64 y.a.up, .int .i64 y.b.east, .int .i64 y.b.north, .int .i64 y.b.up, .int .i64 y.c.east, .int .i64 y.c.north, .int .i64 y.c.up, .int .i64 y.d.east, .int .i64 y.d.north, .int .i64 y.d.up], .bool ok] ∧
    (ok = true → goodPg ts = true ∧ ∃ (z : Wl) (s : Sf), ansWa (ts.map mirPg) (revLg x) = .tuple #[.agg #[.int .i64 z.a.east, .int .i64 z.a.north, .int .i64 z.a.up, .int .i64 z.b.east, .int .i64 z.b.north, .int .i64 z.b.up, .int .i64 z.c.east, .int .i64 z.c.north, .int .i64 z.c.up, .int .i64 z.d.east, .int .i64 z.d.north, .int .i64 z.d.up], .bool true] ∧ ansRev x = .tuple #[.agg #[.int .i64 (revLg x).frm, .int .i64 (revLg x).to_, .int .i64 (revLg x).tape, .int .i64 (revLg x).comp, .int .i64 (revLg x).slope], .bool true] ∧ ansShift x = .tuple #[.agg #[.int .i64 s.east, .int .i64 s.north, .int .i64 s.up], .bool true] ∧ y = ⟨add3 z.d s, add3 z.c s, add3 z.b s, add3 z.a s⟩ ∧ ((-5000 ≤ s.east ∧ s.east ≤ 5000) ∧ (-5000 ≤ s.north ∧ s.north ≤ 5000) ∧ (-5000 ≤ s.up ∧ s.up ≤ 5000))) := by
  refine ⟨waV ts x, waOk ts x, rfl, fun h => ?_⟩
  have h' := h
  unfold waOk at h'
  simp only [Bool.and_eq_true] at h'
  obtain ⟨⟨⟨hg, ho⟩, -⟩, -⟩ := h'
  refine ⟨hg, waV (ts.map mirPg) (revLg x), shf x, ?_, ?_, ?_, walls_back h, ?_⟩
  · unfold ansWa ansWl; rw [waOk_back h]
  · unfold ansRev; rw [if_pos ho]
  · unfold ansShift; rw [if_pos ho]
  · have b := shf_bd ho
    omega
/-- a mirrored passage, and that again -/
theorem mi_form (p : Pg) : ∃ (q : Pg) (ok : Bool), ansMi p = .tuple #[.agg #[.int .i64 q.st, .int .i64 q.lf, .int .i64 q.rt, .int .i64 q.ab, .int .i64 q.be], .bool ok] ∧ (ok = okPg p) ∧ (ok = true → q = mirPg p ∧ ansMi q = .tuple #[.agg #[.int .i64 p.st, .int .i64 p.lf, .int .i64 p.rt, .int .i64 p.ab, .int .i64 p.be], .bool true]) := by
  unfold ansMi
  split
  · rename_i h
    refine ⟨mirPg p, true, rfl, h.symm, fun _ => ⟨rfl, ?_⟩⟩
    rw [if_pos (by rw [mirPg_ok]; exact h)]
    rfl
  · rename_i h
    exact ⟨⟨0, 0, 0, 0, 0⟩, false, rfl, by simpa using h, fun e => by cases e⟩
end Go.Proofs.YtnpghhpcloljeaaDoor.wpw

namespace Go.Proofs.YtnpghhpcloljeaaDoor.wpw
open Go.RowKit
open reads base ty lg pw wz
set_option linter.unusedVariables false
set_option linter.unusedSimpArgs false

def SfLim (s : Sf) : Prop := (-2000 ≤ s.east ∧ s.east ≤ 2000) ∧ (-2000 ≤ s.north ∧ s.north ≤ 2000) ∧ (-2000 ≤ s.up ∧ s.up ≤ 2000)
/-- the sums of two shifts, as they are reckoned -/
def W3 (z s y : Sf) : Prop := IntKind.i64.wrap (z.east + s.east) = y.east ∧ IntKind.i64.wrap (z.north + s.north) = y.north ∧ IntKind.i64.wrap (z.up + s.up) = y.up
theorem w3_is {z s : Sf} (hz : SfLim z) (hs : SfLim s) : W3 z s (add3 z s) := by
  obtain ⟨⟨a0, a1⟩, ⟨b0, b1⟩, c0, c1⟩ := hz
  obtain ⟨⟨d0, d1⟩, ⟨e0, e1⟩, f0, f1⟩ := hs
  exact ⟨IntWalk.i64_in _ (by omega), IntWalk.i64_in _ (by omega), IntWalk.i64_in _ (by omega)⟩
theorem lim_walS {far : Int} (h0 : 0 ≤ far) (h1 : far ≤ 200) (deg : Int) : SfLim (walS far deg) := by
  have := walS_lim h0 h1 deg
  unfold SfLim; omega
theorem lim_add {a b : Sf} (h : (-500 ≤ a.east ∧ a.east ≤ 500) ∧ (-500 ≤ a.north ∧ a.north ≤ 500) ∧ (-500 ≤ a.up ∧ a.up ≤ 500)) (k : (-500 ≤ b.east ∧ b.east ≤ 500) ∧ (-500 ≤ b.north ∧ b.north ≤ 500) ∧ (-500 ≤ b.up ∧ b.up ≤ 500)) : SfLim (add3 a b) := by
  unfold SfLim add3; dsimp only; omega
theorem waV_lim {ts : List Pg} {x : Lg} (h : waOk ts x = true) : SfLim (waV ts x).a ∧ SfLim (waV ts x).b ∧ SfLim (waV ts x).c ∧ SfLim (waV ts x).d := by
  unfold waV
  rw [h]
  unfold waOk at h
  simp only [Bool.and_eq_true] at h
  obtain ⟨⟨⟨hg, ho⟩, -⟩, -⟩ := h
  obtain ⟨-, ⟨p0, p1⟩, ⟨p2, p3⟩, -, -⟩ := okPg_lim (pgZ_ok hg x.frm)
  obtain ⟨-, ⟨q0, q1⟩, ⟨q2, q3⟩, -, -⟩ := okPg_lim (pgZ_ok hg x.to_)
  exact ⟨lim_walS p0 p1 _, lim_walS p2 p3 _, lim_add (shf_bd ho) (walS_lim q0 q1 _), lim_add (shf_bd ho) (walS_lim q2 q3 _)⟩
theorem wa_form2 (ts : List Pg) (x : Lg) : ∃ (y : Wl) (ok : Bool), ansWa ts x = .tuple #[.agg #[.int .i64 y.a.east, .int .i64 y.a.north, .int .i64 y.a.up, .int .i64 y.b.east, .int .i64 y.b.north, .int .i64 y.b.up, .int .i64 y.c.east, .int .i64 y.c.north, .int .i64 y.c.up, .int .i64 y.d.east, .int .i64 y.d.north, .int .i64 y.d.up], .bool ok] ∧
    (ok = true → goodPg ts = true ∧ ∃ (z : Wl) (s : Sf) (r : Lg), ansWa (ts.map mirPg) r = .tuple #[.agg #[.int .i64 z.a.east, .int .i64 z.a.north, .int .i64 z.a.up, .int .i64 z.b.east, .int .i64 z.b.north, .int .i64 z.b.up, .int .i64 z.c.east, .int .i64 z.c.north, .int .i64 z.c.up, .int .i64 z.d.east, .int .i64 z.d.north, .int .i64 z.d.up], .bool true] ∧ ansRev x = .tuple #[.agg #[.int .i64 r.frm, .int .i64 r.to_, .int .i64 r.tape, .int .i64 r.comp, .int .i64 r.slope], .bool true] ∧ ansShift x = .tuple #[.agg #[.int .i64 s.east, .int .i64 s.north, .int .i64 s.up], .bool true] ∧ W3 z.d s y.a ∧ W3 z.c s y.b ∧ W3 z.b s y.c ∧ W3 z.a s y.d) := by
  refine ⟨waV ts x, waOk ts x, rfl, fun h => ?_⟩
  have h' := h
  unfold waOk at h'
  simp only [Bool.and_eq_true] at h'
  obtain ⟨⟨⟨hg, ho⟩, -⟩, -⟩ := h'
  have hb := waOk_back h
  obtain ⟨la, lb, lc, ld⟩ := waV_lim hb
  have ls : SfLim (shf x) := by have b := shf_bd ho; unfold SfLim; omega
  refine ⟨hg, waV (ts.map mirPg) (revLg x), shf x, revLg x, ?_, ?_, ?_, ?_⟩
  · unfold ansWa ansWl; rw [hb]
  · unfold ansRev; rw [if_pos ho]
  · unfold ansShift; rw [if_pos ho]
  · rw [walls_back h]
    exact ⟨w3_is ld ls, w3_is lc ls, w3_is lb ls, w3_is la ls⟩
end Go.Proofs.YtnpghhpcloljeaaDoor.wpw
