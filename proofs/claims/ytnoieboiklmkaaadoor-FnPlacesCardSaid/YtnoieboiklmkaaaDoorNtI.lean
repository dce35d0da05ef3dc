/-
  Depth and extent of a network, by the model.
  Conditions: the legs lie in one block; at most 2000000 of them.
-/
import Derived.Test.YtnoieboiklmkaaaDoorNtH
namespace Go.Proofs.YtnoieboiklmkaaaDoor.nt
open Go.RowKit
open reads base ty lg rowi hs
set_option linter.unusedVariables false
set_option linter.unusedSimpArgs false

section
variable {w v : World} {lo hi : Sf} {T : TypeId}
theorem two_set (h1 : Blk v w.heap.size T #[.int .i64 0, .int .i64 0, .int .i64 0]) (h2 : Blk v (w.heap.size + 1) T #[.int .i64 0, .int .i64 0, .int .i64 0]) (hb : Below w.heap.size w v) : Blk (((((((v.setCell ⟨w.heap.size, 0, none⟩ (.int .i64 lo.east)).setCell ⟨w.heap.size, 1, none⟩ (.int .i64 lo.north)).setCell ⟨w.heap.size, 2, none⟩ (.int .i64 lo.up)).setCell ⟨(w.heap.size + 1), 0, none⟩ (.int .i64 hi.east)).setCell ⟨(w.heap.size + 1), 1, none⟩ (.int .i64 hi.north)).setCell ⟨(w.heap.size + 1), 2, none⟩ (.int .i64 hi.up))) w.heap.size T #[.int .i64 lo.east, .int .i64 lo.north, .int .i64 lo.up] ∧ Blk (((((((v.setCell ⟨w.heap.size, 0, none⟩ (.int .i64 lo.east)).setCell ⟨w.heap.size, 1, none⟩ (.int .i64 lo.north)).setCell ⟨w.heap.size, 2, none⟩ (.int .i64 lo.up)).setCell ⟨(w.heap.size + 1), 0, none⟩ (.int .i64 hi.east)).setCell ⟨(w.heap.size + 1), 1, none⟩ (.int .i64 hi.north)).setCell ⟨(w.heap.size + 1), 2, none⟩ (.int .i64 hi.up))) (w.heap.size + 1) T #[.int .i64 hi.east, .int .i64 hi.north, .int .i64 hi.up] ∧ Below w.heap.size w (((((((v.setCell ⟨w.heap.size, 0, none⟩ (.int .i64 lo.east)).setCell ⟨w.heap.size, 1, none⟩ (.int .i64 lo.north)).setCell ⟨w.heap.size, 2, none⟩ (.int .i64 lo.up)).setCell ⟨(w.heap.size + 1), 0, none⟩ (.int .i64 hi.east)).setCell ⟨(w.heap.size + 1), 1, none⟩ (.int .i64 hi.north)).setCell ⟨(w.heap.size + 1), 2, none⟩ (.int .i64 hi.up))) := by
  have n1 : w.heap.size ≠ w.heap.size + 1 := by omega
  have n2 : w.heap.size + 1 ≠ w.heap.size := by omega
  exact ⟨((((((h1).set_ 0 (.int .i64 lo.east)).set_ 1 (.int .i64 lo.north)).set_ 2 (.int .i64 lo.up)).far (p := ⟨w.heap.size + 1, 0, none⟩) n1 (.int .i64 hi.east)).far (p := ⟨w.heap.size + 1, 1, none⟩) n1 (.int .i64 hi.north)).far (p := ⟨w.heap.size + 1, 2, none⟩) n1 (.int .i64 hi.up), ((((((h2).far (p := ⟨w.heap.size, 0, none⟩) n2 (.int .i64 lo.east)).far (p := ⟨w.heap.size, 1, none⟩) n2 (.int .i64 lo.north)).far (p := ⟨w.heap.size, 2, none⟩) n2 (.int .i64 lo.up)).set_ 0 (.int .i64 hi.east)).set_ 1 (.int .i64 hi.north)).set_ 2 (.int .i64 hi.up), ((((((hb).setCell (p := ⟨w.heap.size, 0, none⟩) (by show _ ≤ w.heap.size; omega) (.int .i64 lo.east)).setCell (p := ⟨w.heap.size, 1, none⟩) (by show _ ≤ w.heap.size; omega) (.int .i64 lo.north)).setCell (p := ⟨w.heap.size, 2, none⟩) (by show _ ≤ w.heap.size; omega) (.int .i64 lo.up)).setCell (p := ⟨w.heap.size + 1, 0, none⟩) (by show _ ≤ w.heap.size + 1; omega) (.int .i64 hi.east)).setCell (p := ⟨w.heap.size + 1, 1, none⟩) (by show _ ≤ w.heap.size + 1; omega) (.int .i64 hi.north)).setCell (p := ⟨w.heap.size + 1, 2, none⟩) (by show _ ≤ w.heap.size + 1; omega) (.int .i64 hi.up)⟩
end
def lowV (ts : List Lg) : Sf := lowN (net ts) (net ts).ps.length
def highV (ts : List Lg) : Sf := highN (net ts) (net ts).ps.length
/-- DepthOf's answer -/
def ansDe (ts : List Lg) : Value := if goodLg ts then .tuple #[.int .i64 ((highV ts).up - (lowV ts).up), .bool true] else .tuple #[.int .i64 0, .bool false]
/-- ExtentOf's answer -/
def ansEx (ts : List Lg) : Value := if goodLg ts then .tuple #[.agg #[.int .i64 (lowV ts).east, .int .i64 (lowV ts).north, .int .i64 (lowV ts).up], .agg #[.int .i64 (highV ts).east, .int .i64 (highV ts).north, .int .i64 (highV ts).up], .bool true] else .tuple #[.agg #[.int .i64 0, .int .i64 0, .int .i64 0], .agg #[.int .i64 0, .int .i64 0, .int .i64 0], .bool false]
set_option maxHeartbeats 8000000 in
set_option maxRecDepth 100000 in
theorem depthOf_model (A : Option Addr) (n cap : Nat) (ts : List Lg) (w : World) (hn : n ≤ 2000000) (hts : Hid (LgAt w w.heap.size A n ts)) :
    Calls Tryd.prog 32 #[.slice A n cap] w (APost (ansDe ts) w) := by
  cases hg : goodLg ts
  · have HG := Lib.hid hg
    have HF := Lib.hid (show ansDe ts = .tuple #[.int .i64 0, .bool false] by unfold ansDe; rw [hg]; rfl)
    clear hg
    go_enter Tryd.func32, Tryd.ntmps32
    go_wp2_with fail
    refine (legs_is A n cap ts false _ hn hts HG).mono ?_
    rintro e w1 ⟨rfl, b1⟩
    have HB := Lib.hid b1
    clear b1
    go_wp2_with fail
    go_ret2
    exact ⟨by rw [HF.out]; rfl, HB.out⟩
  · have HG := Lib.hid hg
    obtain ⟨lo, HLO⟩ : ∃ z, Hid (lowN (net ts) (net ts).ps.length = z) := ⟨_, Lib.hid rfl⟩
    obtain ⟨hi, HHI⟩ : ∃ z, Hid (highN (net ts) (net ts).ps.length = z) := ⟨_, Lib.hid rfl⟩
    have HF := Lib.hid (show ansDe ts = .tuple #[.int .i64 (hi.up - lo.up), .bool true] by unfold ansDe lowV highV; rw [hg, HLO.out, HHI.out]; rfl)
    have hb := ext_bd (ok_net hg) (net ts).ps.length
    rw [HLO.out, HHI.out] at hb
    obtain ⟨⟨-, -, hb1, hb2⟩, ⟨-, -, hb3, hb4⟩⟩ := hb
    clear hg
    go_enter Tryd.func32, Tryd.ntmps32
    go_wp2_with fail
    refine (legs_is A n cap ts true _ hn hts HG).mono ?_
    rintro e w1 ⟨rfl, b1⟩
    have HB := Lib.hid b1
    clear b1
    go_wp2_with fail
    refine (extent_any A n cap ts lo hi _ HLO HHI HG (Lib.hid (hts.out.step HB.out))).mono ?_
    rintro e w2 ⟨rfl, b2⟩
    have HB2 := Lib.hid (HB.out.trans (b2.mono HB.out.size))
    clear b2 HB
    go_wp2_with fail
    go_ret2
    exact ⟨by rw [HF.out]; rfl, (HB2.out.alloc HB2.out.size _).alloc (by have := HB2.out.size; simp; omega) _⟩
set_option maxHeartbeats 8000000 in
set_option maxRecDepth 100000 in
theorem extentOf_model (A : Option Addr) (n cap : Nat) (ts : List Lg) (w : World) (hn : n ≤ 2000000) (hts : Hid (LgAt w w.heap.size A n ts)) :
    Calls Tryd.prog 34 #[.slice A n cap] w (APost (ansEx ts) w) := by
  have HA := Lib.hid ((hts.out.alloc (.cells #[.int .i64 0, .int .i64 0, .int .i64 0] 35)).alloc (.cells #[.int .i64 0, .int .i64 0, .int .i64 0] 35))
  have HB0 := Lib.hid (((Below.refl w.heap.size w).alloc (Nat.le_refl _) (.cells #[.int .i64 0, .int .i64 0, .int .i64 0] 35)).alloc (by simp) (.cells #[.int .i64 0, .int .i64 0, .int .i64 0] 35))
  have HR1 := Lib.hid ((Blk.new w 35 #[.int .i64 0, .int .i64 0, .int .i64 0]).alloc (.cells #[.int .i64 0, .int .i64 0, .int .i64 0] 35))
  have HR2 := Lib.hid (show Blk ((w.alloc (.cells #[.int .i64 0, .int .i64 0, .int .i64 0] 35)).alloc (.cells #[.int .i64 0, .int .i64 0, .int .i64 0] 35)) (w.heap.size + 1) 35 #[.int .i64 0, .int .i64 0, .int .i64 0] by have h := Blk.new (w.alloc (.cells #[.int .i64 0, .int .i64 0, .int .i64 0] 35)) 35 #[.int .i64 0, .int .i64 0, .int .i64 0]; rwa [show (w.alloc (.cells #[.int .i64 0, .int .i64 0, .int .i64 0] 35)).heap.size = w.heap.size + 1 by simp] at h)
  cases hg : goodLg ts
  · have HG := Lib.hid hg
    have HF := Lib.hid (show ansEx ts = .tuple #[.agg #[.int .i64 0, .int .i64 0, .int .i64 0], .agg #[.int .i64 0, .int .i64 0, .int .i64 0], .bool false] by unfold ansEx; rw [hg]; rfl)
    clear hg
    go_enter Tryd.func34, Tryd.ntmps34
    go_wp2_with fail
    refine (legs_is A n cap ts false _ hn HA HG).mono ?_
    rintro e w1 ⟨rfl, b1⟩
    have HQ1 := Lib.hid (HR1.out.below b1 HR1.out.lt)
    have HQ2 := Lib.hid (HR2.out.below b1 HR2.out.lt)
    have HB := Lib.hid (HB0.out.trans (b1.mono HB0.out.size))
    clear b1 HR1 HR2 HB0 HA
    obtain ⟨r0, r1, r2, rf0, rf1, rf2, rl⟩ := box0 HQ1.out
    obtain ⟨s0, s1, s2, sf0, sf1, sf2, sl⟩ := box0 HQ2.out
    go_wp2_with fail
    obtain ⟨Z, HZ⟩ : ∃ Z, Hid (((((((w1.setCell ⟨w.heap.size, 0, none⟩ (.int .i64 0)).setCell ⟨w.heap.size, 1, none⟩ (.int .i64 0)).setCell ⟨w.heap.size, 2, none⟩ (.int .i64 0)).setCell ⟨w.heap.size + 1, 0, none⟩ (.int .i64 0)).setCell ⟨w.heap.size + 1, 1, none⟩ (.int .i64 0)).setCell ⟨w.heap.size + 1, 2, none⟩ (.int .i64 0)) = Z) := ⟨_, Lib.hid rfl⟩
    have HW := Lib.hid (show Blk Z w.heap.size 35 #[.int .i64 0, .int .i64 0, .int .i64 0] ∧ Blk Z (w.heap.size + 1) 35 #[.int .i64 0, .int .i64 0, .int .i64 0] ∧ Below w.heap.size w Z by rw [← HZ.out]; exact two_set (lo := zero3) (hi := zero3) HQ1.out HQ2.out HB.out)
    rw [HZ.out]
    clear r0 r1 r2 rf0 rf1 rf2 rl s0 s1 s2 sf0 sf1 sf2 sl HQ1 HQ2 HB HZ
    obtain ⟨c0, c1, c2, cf0, cf1, cf2, cl⟩ := box0 HW.out.1
    obtain ⟨d0, d1, d2, df0, df1, df2, dl⟩ := box0 HW.out.2.1
    exact bodyPost_ret (v := .tuple #[.agg #[.int .i64 0, .int .i64 0, .int .i64 0], .agg #[.int .i64 0, .int .i64 0, .int .i64 0], .bool false]) (by simp [results, Tryd.results34, go_sem, c0, c1, c2, d0, d1, d2]) rfl ⟨by rw [HF.out], HW.out.2.2⟩
  · have HG := Lib.hid hg
    obtain ⟨lo, HLO⟩ : ∃ z, Hid (lowN (net ts) (net ts).ps.length = z) := ⟨_, Lib.hid rfl⟩
    obtain ⟨hi, HHI⟩ : ∃ z, Hid (highN (net ts) (net ts).ps.length = z) := ⟨_, Lib.hid rfl⟩
    have HF := Lib.hid (show ansEx ts = .tuple #[.agg #[.int .i64 lo.east, .int .i64 lo.north, .int .i64 lo.up], .agg #[.int .i64 hi.east, .int .i64 hi.north, .int .i64 hi.up], .bool true] by unfold ansEx lowV highV; rw [hg, HLO.out, HHI.out]; rfl)
    clear hg
    go_enter Tryd.func34, Tryd.ntmps34
    go_wp2_with fail
    refine (legs_is A n cap ts true _ hn HA HG).mono ?_
    rintro e w1 ⟨rfl, b1⟩
    have HA1 := Lib.hid (HA.out.step b1)
    have HQ1 := Lib.hid (HR1.out.below b1 HR1.out.lt)
    have HQ2 := Lib.hid (HR2.out.below b1 HR2.out.lt)
    have HB := Lib.hid (HB0.out.trans (b1.mono HB0.out.size))
    clear b1 HR1 HR2 HB0 HA
    go_wp2_with fail
    refine (extent_any A n cap ts lo hi _ HLO HHI HG HA1).mono ?_
    rintro e w2 ⟨rfl, b2⟩
    have HT1 := Lib.hid (HQ1.out.below b2 HQ1.out.lt)
    have HT2 := Lib.hid (HQ2.out.below b2 HQ2.out.lt)
    have HB2 := Lib.hid (HB.out.trans (b2.mono HB.out.size))
    clear b2 HB HQ1 HQ2 HA1
    obtain ⟨r0, r1, r2, rf0, rf1, rf2, rl⟩ := box0 HT1.out
    obtain ⟨s0, s1, s2, sf0, sf1, sf2, sl⟩ := box0 HT2.out
    go_upto_region 4 with fail
    have HV := Lib.hid (show Below w2.heap.size w2 ((w2.alloc (.cells #[.int .i64 lo.east, .int .i64 lo.north, .int .i64 lo.up] 35)).alloc (.cells #[.int .i64 hi.east, .int .i64 hi.north, .int .i64 hi.up] 35)) ∧ Blk ((w2.alloc (.cells #[.int .i64 lo.east, .int .i64 lo.north, .int .i64 lo.up] 35)).alloc (.cells #[.int .i64 hi.east, .int .i64 hi.north, .int .i64 hi.up] 35)) w2.heap.size 35 #[.int .i64 lo.east, .int .i64 lo.north, .int .i64 lo.up] ∧ Blk ((w2.alloc (.cells #[.int .i64 lo.east, .int .i64 lo.north, .int .i64 lo.up] 35)).alloc (.cells #[.int .i64 hi.east, .int .i64 hi.north, .int .i64 hi.up] 35)) (w2.heap.size + 1) 35 #[.int .i64 hi.east, .int .i64 hi.north, .int .i64 hi.up] by
      have h := Blk.new (w2.alloc (.cells #[.int .i64 lo.east, .int .i64 lo.north, .int .i64 lo.up] 35)) 35 #[.int .i64 hi.east, .int .i64 hi.north, .int .i64 hi.up]
      rw [show (w2.alloc (.cells #[.int .i64 lo.east, .int .i64 lo.north, .int .i64 lo.up] 35)).heap.size = w2.heap.size + 1 by simp] at h
      exact ⟨((Below.refl w2.heap.size w2).alloc (Nat.le_refl _) _).alloc (by simp) _, (Blk.new w2 _ _).alloc _, h⟩)
    obtain ⟨V, HVV⟩ : ∃ V, Hid (((w2.alloc (.cells #[.int .i64 lo.east, .int .i64 lo.north, .int .i64 lo.up] 35)).alloc (.cells #[.int .i64 hi.east, .int .i64 hi.north, .int .i64 hi.up] 35)) = V) := ⟨_, Lib.hid rfl⟩
    rw [HVV.out] at HV
    rw [HVV.out]
    have HQ1 := Lib.hid (HT1.out.below HV.out.1 HT1.out.lt)
    have HQ2 := Lib.hid (HT2.out.below HV.out.1 HT2.out.lt)
    have HB := Lib.hid (HB2.out.trans (HV.out.1.mono HB2.out.size))
    have HNE := Lib.hid (show w.heap.size + 1 < w2.heap.size from HT2.out.lt)
    obtain ⟨X, HX⟩ : ∃ X, Hid (w2.heap.size = X) := ⟨_, Lib.hid rfl⟩
    rw [HX.out] at HV HNE
    try simp only [HX.out]
    clear HVV HB2 HT1 HT2 HX r0 r1 r2 rf0 rf1 rf2 rl s0 s1 s2 sf0 sf1 sf2 sl
    obtain ⟨r0, r1, r2, rf0, rf1, rf2, rl⟩ := box0 HQ1.out
    obtain ⟨s0, s1, s2, sf0, sf1, sf2, sl⟩ := box0 HQ2.out
    obtain ⟨t0, t1, t2, tf0, tf1, tf2, tl⟩ := box3 HV.out.2.1
    obtain ⟨y0, y1, y2, yf0, yf1, yf2, yl⟩ := box3 HV.out.2.2
    have hx := HNE.out
    go_wp2_with fail
    go_region
    go_wp2_with fail
    obtain ⟨Z, HZ⟩ : ∃ Z, Hid ((((((((V.setCell ⟨w.heap.size, 0, none⟩ (.int .i64 lo.east)).setCell ⟨w.heap.size, 1, none⟩ (.int .i64 lo.north)).setCell ⟨w.heap.size, 2, none⟩ (.int .i64 lo.up)).setCell ⟨(w.heap.size + 1), 0, none⟩ (.int .i64 hi.east)).setCell ⟨(w.heap.size + 1), 1, none⟩ (.int .i64 hi.north)).setCell ⟨(w.heap.size + 1), 2, none⟩ (.int .i64 hi.up))).drew = Z) := ⟨_, Lib.hid rfl⟩
    have HW := Lib.hid (show Blk Z w.heap.size 35 #[.int .i64 lo.east, .int .i64 lo.north, .int .i64 lo.up] ∧ Blk Z (w.heap.size + 1) 35 #[.int .i64 hi.east, .int .i64 hi.north, .int .i64 hi.up] ∧ Below w.heap.size w Z by
      have h := two_set (lo := lo) (hi := hi) HQ1.out HQ2.out HB.out
      rw [← HZ.out]; exact ⟨h.1.below (Below.refl _ _).drew h.1.lt, h.2.1.below (Below.refl _ _).drew h.2.1.lt, h.2.2.drew⟩)
    rw [HZ.out]
    clear r0 r1 r2 rf0 rf1 rf2 rl s0 s1 s2 sf0 sf1 sf2 sl t0 t1 t2 tf0 tf1 tf2 tl y0 y1 y2 yf0 yf1 yf2 yl HV HQ1 HQ2 HB HZ
    obtain ⟨c0, c1, c2, cf0, cf1, cf2, cl⟩ := box3 HW.out.1
    obtain ⟨d0, d1, d2, df0, df1, df2, dl⟩ := box3 HW.out.2.1
    exact bodyPost_ret (v := .tuple #[.agg #[.int .i64 lo.east, .int .i64 lo.north, .int .i64 lo.up], .agg #[.int .i64 hi.east, .int .i64 hi.north, .int .i64 hi.up], .bool true]) (by simp [results, Tryd.results34, go_sem, c0, c1, c2, d0, d1, d2]) rfl ⟨by rw [HF.out], HW.out.2.2⟩
#print axioms depthOf_model
#print axioms extentOf_model
end Go.Proofs.YtnoieboiklmkaaaDoor.nt
