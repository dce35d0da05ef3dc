/-
  The program's tools: the corrected reading, the error of a check, the worst check.
  Conditions: none but those that a theorem names.
-/
import Derived.Test.YtekbiapgbhaibaaTlN
import Derived.Test.YtekbiapgbhaibaaTlG
namespace Go.Proofs.Ytekbiapgbhaibaa.tli
open Go.RowKit
open reads tl
set_option linter.unusedVariables false

theorem rdiv_exact (a : Int) : rdiv (a * 1000) 1000 = a := by unfold rdiv; split <;> omega
/-- a tool in a box, and nothing old has turned -/
def Bx (w : World) (x : Tl) (v : World) : Prop :=
  (v.cell? ⟨w.heap.size, 0, none⟩ = some (.int .i64 x.id) ∧ v.cell? ⟨w.heap.size, 1, none⟩ = some (.int .i64 x.kind) ∧ v.cell? ⟨w.heap.size, 2, none⟩ = some (.int .i64 x.zero) ∧ v.cell? ⟨w.heap.size, 3, none⟩ = some (.int .i64 x.scale)) ∧
    w.heap.size < v.heap.size ∧ Below w.heap.size w v
theorem Bx.start (w : World) (x : Tl) (t : TypeId) : Bx w x (w.alloc (.cells #[.int .i64 x.id, .int .i64 x.kind, .int .i64 x.zero, .int .i64 x.scale] t)) := by
  obtain ⟨c0, c1, c2, c3, hb⟩ := box4 w t (.int .i64 x.id) (.int .i64 x.kind) (.int .i64 x.zero) (.int .i64 x.scale)
  exact ⟨⟨c0, c1, c2, c3⟩, by simp, hb⟩
theorem Bx.step {w v v' : World} {x : Tl} (h : Bx w x v) (hb : Below v.heap.size v v') : Bx w x v' := by
  obtain ⟨⟨c0, c1, c2, c3⟩, hs, hB⟩ := h
  exact ⟨⟨(hb.cell (p := ⟨_, 0, none⟩) hs).trans c0, (hb.cell (p := ⟨_, 1, none⟩) hs).trans c1, (hb.cell (p := ⟨_, 2, none⟩) hs).trans c2, (hb.cell (p := ⟨_, 3, none⟩) hs).trans c3⟩, Nat.lt_of_lt_of_le hs hb.size, hB.trans (hb.mono hB.size)⟩

/-- what the program makes of a reading ahead of its bearing -/
theorem corr_raw {x : Tl} {r : Int} (h : okT x = true) (hk : ¬ x.kind = 0) : rdiv ((r - x.zero) * x.scale) 1000 = r - x.zero := by
  obtain ⟨-, -, -, -, h5⟩ := okT_lim h
  rcases h5 with h5 | h5
  · exact absurd h5 hk
  · rw [h5]; exact rdiv_exact _
set_option maxHeartbeats 2000000 in
theorem correctReading_impl (x : Tl) (r : Int) (w : World) : Calls Try.prog 16 #[.agg #[.int .i64 x.id, .int .i64 x.kind, .int .i64 x.zero, .int .i64 x.scale], .int .i64 r] w (APost (ansCorr x r) w) := by
  have HB0 := Lib.hid (Bx.start w x 25)
  cases hx : okT x
  · have HA := Lib.hid (show ansCorr x r = .tuple #[.int .i64 0, .bool false] by unfold ansCorr corrOk; rw [hx]; rfl)
    have HX := Lib.hid hx
    clear hx
    go_enter Try.func16, Try.ntmps16
    go_wp2_with fail
    refine (isTool_is x false HX _).mono ?_
    rintro e w1 ⟨rfl, b1⟩
    have HB1 := Lib.hid (HB0.out.step b1)
    clear b1
    go_wp2_with fail
    go_ret2
    exact ⟨by rw [HA.out]; rfl, HB1.out.2.2⟩
  cases hr : rdg x.kind r
  · have HA := Lib.hid (show ansCorr x r = .tuple #[.int .i64 0, .bool false] by unfold ansCorr corrOk; rw [hx, hr]; rfl)
    have HX := Lib.hid hx
    have HR := Lib.hid hr
    clear hx hr
    go_enter Try.func16, Try.ntmps16
    go_wp2_with fail
    refine (isTool_is x true HX _).mono ?_
    rintro e w1 ⟨rfl, b1⟩
    have HB1 := Lib.hid (HB0.out.step b1)
    obtain ⟨⟨c0, c1, c2, c3⟩, -, -⟩ := HB1.out
    clear b1
    go_wp2_with fail
    refine (isReading_is _ _ false HR _).mono ?_
    rintro e w2 ⟨rfl, b2⟩
    have HB2 := Lib.hid (HB1.out.step b2)
    clear b2
    go_wp2_with fail
    go_ret2
    exact ⟨by rw [HA.out]; rfl, HB2.out.2.2⟩
  obtain ⟨y, HY⟩ : ∃ y, Hid (corr x r = y) := ⟨_, Lib.hid rfl⟩
  obtain ⟨t, HT⟩ : ∃ t, Hid (rdg x.kind y = t) := ⟨_, Lib.hid rfl⟩
  have HA := Lib.hid (show ansCorr x r = if t = true then .tuple #[.int .i64 y, .bool true] else .tuple #[.int .i64 0, .bool false] by
    unfold ansCorr corrOk; rw [hx, hr, HY.out, HT.out]; rfl)
  obtain ⟨hr0, hr1⟩ := rdg_bd hr
  obtain ⟨-, ⟨k0, k1⟩, ⟨z0, z1⟩, ⟨s0, s1⟩, -⟩ := okT_lim hx
  obtain ⟨p0, p1⟩ := scaled_bd (r - x.zero) x.scale (by omega) (by omega) s0 s1
  by_cases hk : x.kind = 1
  · have HQ := Lib.hid (show rdiv ((r - x.zero) * x.scale) 1000 = r - x.zero from corr_raw hx (by omega))
    have HM := Lib.hid (show (r - x.zero) % 360 = y by rw [← HY.out]; unfold corr; rw [if_neg (by omega), if_pos hk]; omega)
    have hk1 : (x.kind == 1) = true := by simpa using hk
    have HX := Lib.hid hx
    have HR := Lib.hid hr
    clear hx hr hk
    go_enter Try.func16, Try.ntmps16
    go_wp2_with fail
    refine (isTool_is x true HX _).mono ?_
    rintro e w1 ⟨rfl, b1⟩
    have HB1 := Lib.hid (HB0.out.step b1)
    obtain ⟨⟨c0, c1, c2, c3⟩, -, -⟩ := HB1.out
    clear b1
    go_wp2_with fail
    refine (isReading_is _ _ true HR _).mono ?_
    rintro e w2 ⟨rfl, b2⟩
    have HB2 := Lib.hid (HB1.out.step b2)
    clear c0 c1 c2 c3
    obtain ⟨⟨c0, c1, c2, c3⟩, -, -⟩ := HB2.out
    clear b2
    go_wp2_with fail
    refine (quot_is ((r - x.zero) * x.scale) 1000 _ HQ _ (by omega) (by omega) (by decide) (by decide)).mono ?_
    rintro e w' ⟨rfl, rfl⟩
    go_wp2_with fail
    refine (bearingOf_is (r - x.zero) y HM _ (by omega) (by omega)).mono ?_
    rintro e w' ⟨rfl, rfl⟩
    go_wp2_with fail
    refine (isReading_is _ _ t HT _).mono ?_
    rintro e w3 ⟨rfl, b3⟩
    have HB3 := Lib.hid (HB2.out.step b3)
    clear b3
    cases t
    all_goals
      go_wp2_with fail
      go_ret2
      exact ⟨by rw [HA.out]; rfl, HB3.out.2.2⟩
  · have HQ := Lib.hid (show rdiv ((r - x.zero) * x.scale) 1000 = y by
      rw [← HY.out]; unfold corr
      by_cases h0 : x.kind = 0
      · rw [if_pos h0]
      · rw [if_neg h0, if_neg hk]; exact corr_raw hx h0)
    have hk1 : (x.kind == 1) = false := by simpa using hk
    have HX := Lib.hid hx
    have HR := Lib.hid hr
    clear hx hr hk
    go_enter Try.func16, Try.ntmps16
    go_wp2_with fail
    refine (isTool_is x true HX _).mono ?_
    rintro e w1 ⟨rfl, b1⟩
    have HB1 := Lib.hid (HB0.out.step b1)
    obtain ⟨⟨c0, c1, c2, c3⟩, -, -⟩ := HB1.out
    clear b1
    go_wp2_with fail
    refine (isReading_is _ _ true HR _).mono ?_
    rintro e w2 ⟨rfl, b2⟩
    have HB2 := Lib.hid (HB1.out.step b2)
    clear c0 c1 c2 c3
    obtain ⟨⟨c0, c1, c2, c3⟩, -, -⟩ := HB2.out
    clear b2
    go_wp2_with fail
    refine (quot_is ((r - x.zero) * x.scale) 1000 _ HQ _ (by omega) (by omega) (by decide) (by decide)).mono ?_
    rintro e w' ⟨rfl, rfl⟩
    go_wp2_with fail
    refine (isReading_is _ _ t HT _).mono ?_
    rintro e w3 ⟨rfl, b3⟩
    have HB3 := Lib.hid (HB2.out.step b3)
    clear b3
    cases t
    all_goals
      go_wp2_with fail
      go_ret2
      exact ⟨by rw [HA.out]; rfl, HB3.out.2.2⟩

/-- a tool and a check in boxes, and nothing old has turned -/
def Bc (w : World) (x : Tl) (c : Ck) (v : World) : Prop :=
  (v.cell? ⟨w.heap.size + 1, 0, none⟩ = some (.int .i64 c.read) ∧ v.cell? ⟨w.heap.size + 1, 1, none⟩ = some (.int .i64 c.tru)) ∧ w.heap.size + 1 < v.heap.size ∧ Bx w x v
theorem Bc.start (w : World) (x : Tl) (c : Ck) (t t' : TypeId) : Bc w x c ((w.alloc (.cells #[.int .i64 x.id, .int .i64 x.kind, .int .i64 x.zero, .int .i64 x.scale] t)).alloc (.cells #[.int .i64 c.read, .int .i64 c.tru] t')) := by
  have h := Blk.new (w.alloc (.cells #[.int .i64 x.id, .int .i64 x.kind, .int .i64 x.zero, .int .i64 x.scale] t)) t' #[.int .i64 c.read, .int .i64 c.tru]
  rw [show (w.alloc (.cells #[.int .i64 x.id, .int .i64 x.kind, .int .i64 x.zero, .int .i64 x.scale] t)).heap.size = w.heap.size + 1 by simp] at h
  exact ⟨⟨h.cell 0, h.cell 1⟩, h.lt, (Bx.start w x t).step ((Below.refl _ _).alloc (Nat.le_refl _) _)⟩
theorem Bc.step {w v v' : World} {x : Tl} {c : Ck} (h : Bc w x c v) (hb : Below v.heap.size v v') : Bc w x c v' := by
  obtain ⟨⟨c0, c1⟩, hs, hB⟩ := h
  exact ⟨⟨(hb.cell (p := ⟨_, 0, none⟩) hs).trans c0, (hb.cell (p := ⟨_, 1, none⟩) hs).trans c1⟩, Nat.lt_of_lt_of_le hs hb.size, hB.step hb⟩
set_option maxHeartbeats 2000000 in
theorem checkError_impl (x : Tl) (c : Ck) (w : World) : Calls Try.prog 26 #[.agg #[.int .i64 x.id, .int .i64 x.kind, .int .i64 x.zero, .int .i64 x.scale], .agg #[.int .i64 c.read, .int .i64 c.tru]] w (APost (ansErr x c) w) := by
  have HB0 := Lib.hid (Bc.start w x c 25 40)
  cases hc : corrOk x c.read
  · have HA := Lib.hid (show ansErr x c = .tuple #[.int .i64 0, .bool false] by unfold ansErr errOk; rw [hc]; rfl)
    have HC := Lib.hid (show ansCorr x c.read = .tuple #[.int .i64 0, .bool false] by unfold ansCorr; rw [hc]; rfl)
    clear hc
    go_enter Try.func26, Try.ntmps26
    go_wp2_with fail
    refine (correctReading_impl x c.read _).mono ?_
    rintro e w1 ⟨rfl, b1⟩
    rw [HC.out]
    have HB1 := Lib.hid (HB0.out.step b1)
    clear b1
    go_wp2_with fail
    go_ret2
    exact ⟨by rw [HA.out]; rfl, HB1.out.2.2.2.2⟩
  obtain ⟨k1, k2, k3⟩ := corrOk_yes hc
  obtain ⟨n, HN⟩ : ∃ n, Hid (corr x c.read = n) := ⟨_, Lib.hid rfl⟩
  have HC := Lib.hid (show ansCorr x c.read = .tuple #[.int .i64 n, .bool true] by unfold ansCorr; rw [hc, HN.out]; rfl)
  rw [HN.out] at k3
  have hnb := rdg_bd k3
  cases ht : rdg x.kind c.tru
  · have HA := Lib.hid (show ansErr x c = .tuple #[.int .i64 0, .bool false] by unfold ansErr errOk; rw [hc, ht]; rfl)
    have HT := Lib.hid ht
    clear hc ht k1 k2 k3
    go_enter Try.func26, Try.ntmps26
    go_wp2_with fail
    refine (correctReading_impl x c.read _).mono ?_
    rintro e w1 ⟨rfl, b1⟩
    rw [HC.out]
    have HB1 := Lib.hid (HB0.out.step b1)
    obtain ⟨⟨c0, c1⟩, -, ⟨-, d1, -, -⟩, -, -⟩ := HB1.out
    clear b1
    go_wp2_with fail
    refine (isReading_is _ _ false HT _).mono ?_
    rintro e w2 ⟨rfl, b2⟩
    have HB2 := Lib.hid (HB1.out.step b2)
    clear b2
    go_wp2_with fail
    go_ret2
    exact ⟨by rw [HA.out]; rfl, HB2.out.2.2.2.2⟩
  have HA := Lib.hid (show ansErr x c = .tuple #[.int .i64 (errV x c), .bool true] by unfold ansErr errOk; rw [hc, ht]; rfl)
  have htb := rdg_bd ht
  have HT := Lib.hid ht
  by_cases q : x.kind = 1
  · obtain ⟨v, HV⟩ : ∃ v, Hid ((n - c.tru + 360 + 179) % 360 - 179 = v) := ⟨_, Lib.hid rfl⟩
    have HW := Lib.hid (show errV x c = v by unfold errV; rw [if_pos q, HN.out]; exact HV.out)
    have e1 := rdg_one k3 q
    have e2 := rdg_one ht q
    have dk : (x.kind == 1) = true := by simpa using q
    clear hc ht k1 k2 k3 q
    go_enter Try.func26, Try.ntmps26
    go_wp2_with fail
    refine (correctReading_impl x c.read _).mono ?_
    rintro e w1 ⟨rfl, b1⟩
    rw [HC.out]
    have HB1 := Lib.hid (HB0.out.step b1)
    obtain ⟨⟨c0, c1⟩, -, ⟨-, d1, -, -⟩, -, -⟩ := HB1.out
    clear b1
    go_wp2_with fail
    refine (isReading_is _ _ true HT _).mono ?_
    rintro e w2 ⟨rfl, b2⟩
    have HB2 := Lib.hid (HB1.out.step b2)
    clear b2 c0 c1 d1
    obtain ⟨⟨c0, c1⟩, -, ⟨-, d1, -, -⟩, -, -⟩ := HB2.out
    go_wp2_with fail
    refine (signedTurn_is (n - c.tru) v HV _ (by omega) (by omega)).mono ?_
    rintro e w' ⟨rfl, rfl⟩
    go_wp2_with fail
    go_ret2
    exact ⟨by rw [HA.out, HW.out]; rfl, HB2.out.2.2.2.2⟩
  · have HV := Lib.hid (show errV x c = n - c.tru by unfold errV; rw [if_neg q, HN.out])
    have dk : (x.kind == 1) = false := by simpa using q
    clear hc ht k1 k2 k3 q
    go_enter Try.func26, Try.ntmps26
    go_wp2_with fail
    refine (correctReading_impl x c.read _).mono ?_
    rintro e w1 ⟨rfl, b1⟩
    rw [HC.out]
    have HB1 := Lib.hid (HB0.out.step b1)
    obtain ⟨⟨c0, c1⟩, -, ⟨-, d1, -, -⟩, -, -⟩ := HB1.out
    clear b1
    go_wp2_with fail
    refine (isReading_is _ _ true HT _).mono ?_
    rintro e w2 ⟨rfl, b2⟩
    have HB2 := Lib.hid (HB1.out.step b2)
    clear b2 c0 c1 d1
    obtain ⟨⟨c0, c1⟩, -, ⟨-, d1, -, -⟩, -, -⟩ := HB2.out
    go_wp2_with fail
    go_ret2
    exact ⟨by rw [HA.out, HV.out]; rfl, HB2.out.2.2.2.2⟩
theorem error_is (x : Tl) (c : Ck) (v : Value) (h : Hid (ansErr x c = v)) (w : World) : Calls Try.prog 26 #[.agg #[.int .i64 x.id, .int .i64 x.kind, .int .i64 x.zero, .int .i64 x.scale], .agg #[.int .i64 c.read, .int .i64 c.tru]] w (APost v w) := by
  rw [← h.out]; exact checkError_impl x c w
end Go.Proofs.Ytekbiapgbhaibaa.tli
