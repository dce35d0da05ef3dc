/-
  The misclosure of a loop, by the program; which of two loops is worse.
  Conditions: the legs are valid and lie in one block; the variable holds the table of the sines.
-/
import Derived.Test.YtkeepfkjhcmhlaaDoorKiN
import Derived.Test.YtkeepfkjhcmhlaaDoorKmN
import Derived.Test.YtkeepfkjhcmhlaaDoorNqM
import Derived.Test.YtkeepfkjhcmhlaaDoorNqLn
namespace Go.Proofs.YtkeepfkjhcmhlaaDoor.lpi
open Go.RowKit
open reads base ty lg lgi win rowi hs nt nq sn lp
set_option linter.unusedVariables false
set_option linter.unusedSimpArgs false

theorem sumW_app (ts : List Lg) (s i : Int) : ∀ (D : List (Int × Int)) (z : Sf), sumW ts (D ++ [(s, i)]) z = add3 (sumW ts D z) (along ts i s)
  | [], z => rfl
  | (a, b) :: D, z => by rw [List.cons_append, sumW, sumW]; exact sumW_app ts s i D _
/-- a way that lay there before -/
theorem way_back {w v : World} {B : Nat} (hb : Below B w v) : ∀ {R : List (Int × Int)} {a : Option Addr}, WayAt v B a R → WayAt w B a R
  | [], _, h => h
  | (s, i) :: R, a, h => by
    obtain ⟨g, u, e, hg, hk, h2⟩ := h
    exact ⟨g, u, e, hg, (hb.block g hg).symm.trans hk, way_back hb h2⟩
/-- the boxes of the answer and the sum, and the leg at hand -/
def PX (w : World) (s : Sf) (X : Nat) (y : Lg) (v : World) : Prop := CB3 w s v ∧ Blk v X 51 #[.int .i64 y.frm, .int .i64 y.to_, .int .i64 y.tape, .int .i64 y.comp, .int .i64 y.slope] ∧ w.heap.size + 1 < X
section
variable {w v v' : World} {X : Nat} {s : Sf} {y : Lg}
theorem PX.step (h : PX w s X y v) (hb : Below v.heap.size v v') : PX w s X y v' := ⟨h.1.step hb, h.2.1.below hb h.2.1.lt, h.2.2⟩
theorem PX.cs (h : PX w s X y v) : (v.cell? ⟨w.heap.size + 1, 0, none⟩ = some (.int .i64 s.east) ∧ v.cell? ⟨w.heap.size + 1, 1, none⟩ = some (.int .i64 s.north) ∧ v.cell? ⟨w.heap.size + 1, 2, none⟩ = some (.int .i64 s.up)) ∧ (v.cell? ⟨X, 0, none⟩ = some (.int .i64 y.frm) ∧ v.cell? ⟨X, 1, none⟩ = some (.int .i64 y.to_) ∧ v.cell? ⟨X, 2, none⟩ = some (.int .i64 y.tape) ∧ v.cell? ⟨X, 3, none⟩ = some (.int .i64 y.comp) ∧ v.cell? ⟨X, 4, none⟩ = some (.int .i64 y.slope)) ∧ X < v.heap.size ∧ (v.frozen? ⟨w.heap.size + 1, 0, none⟩ = false ∧ v.frozen? ⟨w.heap.size + 1, 1, none⟩ = false ∧ v.frozen? ⟨w.heap.size + 1, 2, none⟩ = false ∧ w.heap.size + 1 < v.heap.size) := ⟨h.1.cs, leg5 h.2.1, h.2.1.lt, h.1.fs⟩
theorem PX.xs (h : PX w s X y v) : (v.frozen? ⟨X, 0, none⟩ = false ∧ v.frozen? ⟨X, 1, none⟩ = false ∧ v.frozen? ⟨X, 2, none⟩ = false ∧ v.frozen? ⟨X, 3, none⟩ = false ∧ v.frozen? ⟨X, 4, none⟩ = false) := ⟨h.2.1.frozen 0, h.2.1.frozen 1, h.2.1.frozen 2, h.2.1.frozen 3, h.2.1.frozen 4⟩
/-- another leg in the box -/
theorem PX.putx (h : PX w s X y v) (r : Lg) : PX w s X r (((((v.setCell ⟨X, 0, none⟩ (.int .i64 r.frm)).setCell ⟨X, 1, none⟩ (.int .i64 r.to_)).setCell ⟨X, 2, none⟩ (.int .i64 r.tape)).setCell ⟨X, 3, none⟩ (.int .i64 r.comp)).setCell ⟨X, 4, none⟩ (.int .i64 r.slope)) := by
  obtain ⟨⟨h1, h2, h3⟩, h4, h5⟩ := h
  have n1 : ∀ o, w.heap.size ≠ (⟨X, o, none⟩ : Addr).block := fun o => by show w.heap.size ≠ X; omega
  have n2 : ∀ o, w.heap.size + 1 ≠ (⟨X, o, none⟩ : Addr).block := fun o => by show w.heap.size + 1 ≠ X; omega
  have hw : w.heap.size ≤ X := by omega
  refine ⟨⟨((((h1.far (n1 0) _).far (n1 1) _).far (n1 2) _).far (n1 3) _).far (n1 4) _, ((((h2.far (n2 0) _).far (n2 1) _).far (n2 2) _).far (n2 3) _).far (n2 4) _, ((((h3.setCell hw _).setCell hw _).setCell hw _).setCell hw _).setCell hw _⟩, ?_, h5⟩
  have k := ((((h4.set_ 0 (.int .i64 r.frm)).set_ 1 (.int .i64 r.to_)).set_ 2 (.int .i64 r.tape)).set_ 3 (.int .i64 r.comp)).set_ 4 (.int .i64 r.slope)
  simpa using k
end
set_option maxHeartbeats 4000000 in
set_option maxRecDepth 100000 in
theorem misAlong_none (A : Option Addr) (n cap : Nat) (w : World) : Calls Tryd.prog 58 #[.slice A n cap, .pointer none] w (APost (.agg #[.int .i64 0, .int .i64 0, .int .i64 0]) w) := by
  have HC0 := Lib.hid (CB3.start w)
  obtain ⟨z0, z1, z2⟩ := HC0.out.zs
  obtain ⟨s0, s1, s2⟩ := HC0.out.cs
  obtain ⟨f0, f1, f2, f3⟩ := HC0.out.gs
  obtain ⟨V, HV⟩ : ∃ V, Hid ((w.alloc (.cells #[.int .i64 0, .int .i64 0, .int .i64 0] 35)).alloc (.cells #[.int .i64 0, .int .i64 0, .int .i64 0] 35) = V) := ⟨_, Lib.hid rfl⟩
  rw [HV.out] at HC0 z0 z1 z2 s0 s1 s2 f0 f1 f2 f3
  go_enter Tryd.func58, Tryd.ntmps58
  go_upto_region 2 with fail
  rw [HV.out]
  clear HV
  go_wp2_with fail
  go_loopg [6] 0 (fun k p wr => V = wr ∧ p = .pointer none)
  case atStart => exact ⟨rfl, rfl⟩
  case round =>
    obtain ⟨rfl, rfl⟩ := hrel
    have z3 : zero3.east = 0 ∧ zero3.north = 0 ∧ zero3.up = 0 := ⟨rfl, rfl, rfl⟩
    rw [z3.1] at s0
    rw [z3.2.1] at s1
    rw [z3.2.2] at s2
    clear z3
    go_wp2_with fail
    refine bodyPost_ret (v := .agg #[.int .i64 0, .int .i64 0, .int .i64 0]) (by simp [results, Tryd.results58, go_sem, *]) rfl ⟨rfl, ?_⟩
    exact ((HC0.out.2.2.setCell (by simp) _).setCell (by simp) _).setCell (by simp) _
set_option maxHeartbeats 16000000 in
set_option maxRecDepth 100000 in
theorem misAlong_any (A : Option Addr) (n cap : Nat) (ts : List Lg) (W : List (Int × Int)) (a : Option Addr) (r : Sf) (w : World) (hr : Hid (sumW ts W zero3 = r)) (hg : Hid (goodLg ts = true)) (hl : W.length ≤ 13) (hlegs : Hid (∀ j ∈ W.map Prod.snd, 0 ≤ j ∧ ∃ x, ts[j.toNat]? = some x)) (hW : Hid (WayAt w w.heap.size a W)) (hts : Hid (LgAt w w.heap.size A n ts)) (hT : Hid (Tab w)) :
    Calls Tryd.prog 58 #[.slice A n cap, .pointer a] w (APost (.agg #[.int .i64 r.east, .int .i64 r.north, .int .i64 r.up]) w) := by
  have HL := Lib.hid hts.out.1
  have HC0 := Lib.hid (CB3.start w)
  obtain ⟨V, HV⟩ : ∃ V, Hid ((w.alloc (.cells #[.int .i64 0, .int .i64 0, .int .i64 0] 35)).alloc (.cells #[.int .i64 0, .int .i64 0, .int .i64 0] 35) = V) := ⟨_, Lib.hid rfl⟩
  rw [HV.out] at HC0
  go_enter Tryd.func58, Tryd.ntmps58
  go_upto_region 2 with fail
  rw [HV.out]
  clear HV
  go_wp2_with fail
  go_loopg [6] W.length (fun k p wr => ∃ (D R : List (Int × Int)) (z : Sf) (u : Option Addr), Hid (W = D ++ R) ∧ R.length = k ∧ p = .pointer u ∧ Hid (sumW ts D zero3 = z) ∧ Hid (BdN D.length z) ∧ Hid (WayAt wr w.heap.size u R) ∧ CB3 w z wr)
  case atStart => exact ⟨[], W, zero3, a, Lib.hid rfl, rfl, rfl, Lib.hid rfl, Lib.hid bdN_zero, Lib.hid (hW.out.below HC0.out.2.2), HC0.out⟩
  case round =>
    obtain ⟨D, R, z, u, HWD, hk, rfl, HZ, HBZ, HR, hC⟩ := hrel
    have HC := Lib.hid hC
    clear hC HC0
    cases R with
    | nil =>
      obtain rfl : u = none := HR.out
      have HFIN := Lib.hid (show z = r by rw [← hr.out, ← HZ.out, HWD.out, List.append_nil])
      obtain ⟨s0, s1, s2⟩ := HC.out.cs
      obtain ⟨z0, z1, z2⟩ := HC.out.zs
      obtain ⟨f0, f1, f2, f3⟩ := HC.out.gs
      go_wp2_with fail
      refine bodyPost_ret (v := .agg #[.int .i64 z.east, .int .i64 z.north, .int .i64 z.up]) (by simp [results, Tryd.results58, go_sem, *]) rfl ⟨by rw [HFIN.out], ?_⟩
      exact ((HC.out.2.2.setCell (by simp) _).setCell (by simp) _).setCell (by simp) _
    | cons p R =>
      obtain ⟨s, i⟩ := p
      obtain ⟨g, q, rfl, hg9, hk9, h2⟩ := HR.out
      have HK9 := Lib.hid (show Blk w g 61 #[.int .i64 s, .int .i64 i, .pointer q] from (HC.out.2.2.block g hg9).symm.trans hk9)
      have H2 := Lib.hid (show WayAt w w.heap.size q R from way_back HC.out.2.2 h2)
      obtain ⟨i0, y, hy⟩ := hlegs.out i (by rw [HWD.out]; simp)
      obtain ⟨j, rfl⟩ := Int.eq_ofNat_of_zero_le i0
      rw [Int.toNat_natCast] at hy
      have hjn : j < n := by have := lt_at hy; rw [HL.out] at this; exact this
      obtain ⟨gL, rfl, hgL, y0, y1, y2, y3, y4⟩ := (hts.out.below HC.out.2.2).2 j y hy
      have HOY := Lib.hid (goodLg_at hg.out hy)
      have HLY := Lib.hid (show legAt ts (j : Int) = y from legAt_is (by rw [Int.toNat_natCast]; exact hy))
      have hdl : D.length ≤ 12 := by have := congrArg List.length HWD.out; rw [List.length_append, List.length_cons] at this; omega
      have HSB := Lib.hid (bdN_s HBZ.out (by omega))
      obtain ⟨sh, HSA⟩ : ∃ sh, Hid (along ts (j : Int) s = sh) := ⟨_, Lib.hid rfl⟩
      have HTB := Lib.hid (show BdS sh by
        have h := shf_at hg.out (j : Int) s
        rw [HSA.out] at h
        unfold BdS; omega)
      obtain ⟨nx, HN⟩ : ∃ nx, Hid (add3 z sh = nx) := ⟨_, Lib.hid rfl⟩
      have HNX := Lib.hid (show sumW ts (D ++ [(s, (j : Int))]) zero3 = nx by rw [sumW_app, HZ.out, HSA.out, HN.out])
      have HBX := Lib.hid (show BdN (D ++ [(s, (j : Int))]).length nx by
        have h := bdN_step hg.out HBZ.out (j : Int) s
        rw [HSA.out, HN.out] at h
        rw [List.length_append]; exact h)
      have hji : (j : Int) < (n : Int) := by omega
      have hj0 : (0 : Int) ≤ (j : Int) := by omega
      have hcase : (y.frm == s) = true ∨ (y.frm == s) = false := by cases (y.frm == s) <;> simp
      have e1 := hk9.cell 1
      simp at e1
      clear hk9 h2 hy
      go_upto_region 6 with fail
      obtain ⟨U, HU⟩ : ∃ U, Hid (wr.alloc (.cells #[.int .i64 y.frm, .int .i64 y.to_, .int .i64 y.tape, .int .i64 y.comp, .int .i64 y.slope] 51) = U) := ⟨_, Lib.hid rfl⟩
      obtain ⟨X, HX⟩ : ∃ X, Hid (wr.heap.size = X) := ⟨_, Lib.hid rfl⟩
      have HPX := Lib.hid (show PX w z X y U by rw [← HU.out, ← HX.out]; exact ⟨HC.out.step ((Below.refl _ _).alloc (Nat.le_refl _) _), Blk.new _ _ _, HC.out.fs.2.2.2⟩)
      try rw [HX.out]
      try simp only [HX.out]
      rw [HU.out]
      clear HU HX HC e1 y0 y1 y2 y3 y4
      have x0 := HPX.out.2.1.cell 0
      have e0 := (HK9.out.below HPX.out.1.2.2 hg9).cell 0
      simp at x0 e0
      rcases hcase with hq9 | hq9
      · have hne : (y.frm != s) = false := by simp [bne, hq9]
        have HSY := Lib.hid (show shf y = sh by rw [← HSA.out]; unfold along; rw [HLY.out, if_pos (by simpa using hq9)])
        go_quiet (fail)
        obtain ⟨W1, HW1⟩ : ∃ Z, Hid (U.drewN nq = Z) := ⟨_, Lib.hid rfl⟩
        have HP1 := Lib.hid (show PX w z X y W1 by rw [← HW1.out]; exact HPX.out.step (drewN_below _ _))
        try rw [HW1.out]
        clear HW1 HPX x0 e0
        go_upto_region 8 with fail
        obtain ⟨⟨s0, s1, s2⟩, ⟨x0c, x1c, x2c, x3c, x4c⟩, hXs, -, -, -, hs9⟩ := HP1.out.cs
        go_region_with (first | (go_at_call 78; refine (along_is y sh HSY _ HOY (Lib.hid (hT.out.below (HP1.out.1.2.2.drew)))).mono ?_; rintro e w8 ⟨rfl, b⟩; have HM8 := Lib.hid ((HP1.out.step (Below.refl _ _).drew).step b); clear b s0 s1 s2 x0c x1c x2c x3c x4c hXs hs9; obtain ⟨⟨s0, s1, s2⟩, ⟨x0c, x1c, x2c, x3c, x4c⟩, hXs, -⟩ := HM8.out.cs) | (go_at_call 87; refine (sum_q z sh nx HN _ HSB HTB).mono ?_; rintro e w9 ⟨rfl, b⟩; have HM9 := Lib.hid (HM8.out.step b); clear b s0 s1 s2 x0c x1c x2c x3c x4c hXs; obtain ⟨⟨s0, s1, s2⟩, -, hXs, f0, f1, f2, f3⟩ := HM9.out.cs))
        all_goals
          obtain ⟨W9, HW9⟩ : ∃ W, Hid (((w9.setCell ⟨w.heap.size + 1, 0, none⟩ (.int .i64 nx.east)).setCell ⟨w.heap.size + 1, 1, none⟩ (.int .i64 nx.north)).setCell ⟨w.heap.size + 1, 2, none⟩ (.int .i64 nx.up) = W) := ⟨_, Lib.hid rfl⟩
          have HMF := Lib.hid (show CB3 w nx W9 by rw [← HW9.out]; exact HM9.out.1.put nx)
          rw [HW9.out]
          clear HW9 s0 s1 s2 f0 f1 f2 f3 hXs HM8 HM9
          have e2 := (HK9.out.below HMF.out.2.2 hg9).cell 2
          simp at e2
          have HW2 := Lib.hid (H2.out.below HMF.out.2.2)
          go_wp2_with fail
          go_roundg R.length
          case measure => simp at hk; omega
          case rel => exact ⟨D ++ [(s, (j : Int))], R, nx, q, Lib.hid (by rw [HWD.out]; simp), rfl, rfl, HNX, HBX, HW2, HMF.out⟩
      · have hne : (y.frm != s) = true := by simp [bne, hq9]
        have HSY := Lib.hid (show shf (revLg y) = sh by
          rw [← HSA.out]; unfold along; rw [HLY.out, if_neg (by simpa using hq9), shf_rev HOY.out]
          exact sf_ext (by unfold sub3 zero3; simp only []; omega) (by unfold sub3 zero3; simp only []; omega) (by unfold sub3 zero3; simp only []; omega))
        have HOR := Lib.hid (revLg_ok HOY.out)
        have hyl := okLg_lim HOY.out
        obtain ⟨y9, HY9⟩ : ∃ y9, Hid (revLg y = y9) := ⟨_, Lib.hid rfl⟩
        rw [HY9.out] at HSY HOR
        go_quiet (fail)
        obtain ⟨W1, HW1⟩ : ∃ Z, Hid (U.drewN nq = Z) := ⟨_, Lib.hid rfl⟩
        have HP0 := Lib.hid (show PX w z X y W1 by rw [← HW1.out]; exact HPX.out.step (drewN_below _ _))
        try rw [HW1.out]
        clear HW1 HPX x0 e0
        obtain ⟨-, ⟨x0c, x1c, x2c, x3c, x4c⟩, hXs, -⟩ := HP0.out.cs
        go_wp2_with fail
        refine (rev_is y y9 HY9 _ (by omega) (by omega) (by omega) (by omega)).mono ?_
        rintro e w7 ⟨rfl, b7⟩
        have HP7 := Lib.hid (HP0.out.step b7)
        clear b7 HP0 x0c x1c x2c x3c x4c hXs hyl
        obtain ⟨-, ⟨x0c, x1c, x2c, x3c, x4c⟩, hXs, -⟩ := HP7.out.cs
        obtain ⟨g0, g1, g2, g3, g4⟩ := HP7.out.xs
        go_upto_region 8 with fail
        obtain ⟨W8, HW8⟩ : ∃ Z, Hid (((((w7.setCell ⟨X, 0, none⟩ (.int .i64 y9.frm)).setCell ⟨X, 1, none⟩ (.int .i64 y9.to_)).setCell ⟨X, 2, none⟩ (.int .i64 y9.tape)).setCell ⟨X, 3, none⟩ (.int .i64 y9.comp)).setCell ⟨X, 4, none⟩ (.int .i64 y9.slope) = Z) := ⟨_, Lib.hid rfl⟩
        have HP1 := Lib.hid (show PX w z X y9 W8 by rw [← HW8.out]; exact HP7.out.putx y9)
        rw [HW8.out]
        clear HW8 HP7 x0c x1c x2c x3c x4c hXs g0 g1 g2 g3 g4
        obtain ⟨⟨s0, s1, s2⟩, ⟨x0c, x1c, x2c, x3c, x4c⟩, hXs, -, -, -, hs9⟩ := HP1.out.cs
        go_region_with (first | (go_at_call 78; refine (along_is y9 sh HSY _ HOR (Lib.hid (hT.out.below (HP1.out.1.2.2.drew)))).mono ?_; rintro e w8 ⟨rfl, b⟩; have HM8 := Lib.hid ((HP1.out.step (Below.refl _ _).drew).step b); clear b s0 s1 s2 x0c x1c x2c x3c x4c hXs hs9; obtain ⟨⟨s0, s1, s2⟩, ⟨x0c, x1c, x2c, x3c, x4c⟩, hXs, -⟩ := HM8.out.cs) | (go_at_call 87; refine (sum_q z sh nx HN _ HSB HTB).mono ?_; rintro e w9 ⟨rfl, b⟩; have HM9 := Lib.hid (HM8.out.step b); clear b s0 s1 s2 x0c x1c x2c x3c x4c hXs; obtain ⟨⟨s0, s1, s2⟩, -, hXs, f0, f1, f2, f3⟩ := HM9.out.cs))
        all_goals
          obtain ⟨W9, HW9⟩ : ∃ W, Hid (((w9.setCell ⟨w.heap.size + 1, 0, none⟩ (.int .i64 nx.east)).setCell ⟨w.heap.size + 1, 1, none⟩ (.int .i64 nx.north)).setCell ⟨w.heap.size + 1, 2, none⟩ (.int .i64 nx.up) = W) := ⟨_, Lib.hid rfl⟩
          have HMF := Lib.hid (show CB3 w nx W9 by rw [← HW9.out]; exact HM9.out.1.put nx)
          rw [HW9.out]
          clear HW9 s0 s1 s2 f0 f1 f2 f3 hXs HM8 HM9
          have e2 := (HK9.out.below HMF.out.2.2 hg9).cell 2
          simp at e2
          have HW2 := Lib.hid (H2.out.below HMF.out.2.2)
          go_wp2_with fail
          go_roundg R.length
          case measure => simp at hk; omega
          case rel => exact ⟨D ++ [(s, (j : Int))], R, nx, q, Lib.hid (by rw [HWD.out]; simp), rfl, rfl, HNX, HBX, HW2, HMF.out⟩
#print axioms misAlong_none
#print axioms misAlong_any
end Go.Proofs.YtkeepfkjhcmhlaaDoor.lpi
