/-
  The model of the legs: do two legs agree?
  Conditions: none but those that a theorem names.
-/
import Derived.Test.YtiojgmojnnbpiaaDoorLgR
import Derived.Test.YtiojgmojnnbpiaaDoorTurn
import Derived.Test.YtiojgmojnnbpiaaDoorMost
import Derived.Deep.DeepCutAuto
namespace Go.Proofs.YtiojgmojnnbpiaaDoor.lg
open Go.RowKit
open reads base ty inn mst
set_option linter.unusedVariables false
set_option linter.unusedSimpArgs false

/-- the second leg, turned if it leads the other way -/
def aim (a b : Lg) : Lg := if a.frm = b.to_ ∧ a.to_ = b.frm then revLg b else b
def near (a y : Lg) (d q : Int) : Bool := decide (tn.turn a.comp y.comp ≤ d) && decide (mx (a.slope - y.slope) (y.slope - a.slope) ≤ d) && decide (mx (a.tape - y.tape) (y.tape - a.tape) ≤ q)
def agOk (a b : Lg) (d q : Int) : Bool := okLg a && okLg b && decide (0 ≤ d) && decide (0 ≤ q)
def ansAgree (a b : Lg) (d q : Int) : Value := if agOk a b d q = true ∧ (a.frm = (aim a b).frm ∧ a.to_ = (aim a b).to_) then .tuple #[.bool (near a (aim a b) d q), .bool true] else .tuple #[.bool false, .bool false]
theorem aim_ok {a b : Lg} (h : okLg b = true) : okLg (aim a b) = true := by
  unfold aim
  split
  · exact revLg_ok h
  · exact h
/-- two legs in boxes, and nothing old has turned -/
def B2 (w : World) (a y : Lg) (v : World) : Prop := Blk v w.heap.size 41 #[.int .i64 a.frm, .int .i64 a.to_, .int .i64 a.tape, .int .i64 a.comp, .int .i64 a.slope] ∧ Blk v (w.heap.size + 1) 41 #[.int .i64 y.frm, .int .i64 y.to_, .int .i64 y.tape, .int .i64 y.comp, .int .i64 y.slope] ∧ Below w.heap.size w v
theorem B2.start (w : World) (a y : Lg) : B2 w a y ((w.alloc (.cells #[.int .i64 a.frm, .int .i64 a.to_, .int .i64 a.tape, .int .i64 a.comp, .int .i64 a.slope] 41)).alloc (.cells #[.int .i64 y.frm, .int .i64 y.to_, .int .i64 y.tape, .int .i64 y.comp, .int .i64 y.slope] 41)) := by
  refine ⟨(Blk.new w _ _).alloc _, ?_, ((Below.refl _ _).alloc (Nat.le_refl _) _).alloc (by simp) _⟩
  have h := Blk.new (w.alloc (.cells #[.int .i64 a.frm, .int .i64 a.to_, .int .i64 a.tape, .int .i64 a.comp, .int .i64 a.slope] 41)) 41 #[.int .i64 y.frm, .int .i64 y.to_, .int .i64 y.tape, .int .i64 y.comp, .int .i64 y.slope]
  simpa using h
theorem B2.step {w v v' : World} {a y : Lg} (h : B2 w a y v) (hb : Below v.heap.size v v') : B2 w a y v' := ⟨h.1.below hb h.1.lt, h.2.1.below hb h.2.1.lt, h.2.2.trans (hb.mono h.2.2.size)⟩
theorem B2.ca {w v : World} {a y : Lg} (h : B2 w a y v) : v.cell? ⟨w.heap.size, 0, none⟩ = some (.int .i64 a.frm) ∧ v.cell? ⟨w.heap.size, 1, none⟩ = some (.int .i64 a.to_) ∧ v.cell? ⟨w.heap.size, 2, none⟩ = some (.int .i64 a.tape) ∧ v.cell? ⟨w.heap.size, 3, none⟩ = some (.int .i64 a.comp) ∧ v.cell? ⟨w.heap.size, 4, none⟩ = some (.int .i64 a.slope) := ⟨h.1.cell 0, h.1.cell 1, h.1.cell 2, h.1.cell 3, h.1.cell 4⟩
theorem B2.cb {w v : World} {a y : Lg} (h : B2 w a y v) : v.cell? ⟨w.heap.size + 1, 0, none⟩ = some (.int .i64 y.frm) ∧ v.cell? ⟨w.heap.size + 1, 1, none⟩ = some (.int .i64 y.to_) ∧ v.cell? ⟨w.heap.size + 1, 2, none⟩ = some (.int .i64 y.tape) ∧ v.cell? ⟨w.heap.size + 1, 3, none⟩ = some (.int .i64 y.comp) ∧ v.cell? ⟨w.heap.size + 1, 4, none⟩ = some (.int .i64 y.slope) := ⟨h.2.1.cell 0, h.2.1.cell 1, h.2.1.cell 2, h.2.1.cell 3, h.2.1.cell 4⟩
theorem B2.fb {w v : World} {a y : Lg} (h : B2 w a y v) : v.frozen? ⟨w.heap.size + 1, 0, none⟩ = false ∧ v.frozen? ⟨w.heap.size + 1, 1, none⟩ = false ∧ v.frozen? ⟨w.heap.size + 1, 2, none⟩ = false ∧ v.frozen? ⟨w.heap.size + 1, 3, none⟩ = false ∧ v.frozen? ⟨w.heap.size + 1, 4, none⟩ = false := ⟨h.2.1.frozen 0, h.2.1.frozen 1, h.2.1.frozen 2, h.2.1.frozen 3, h.2.1.frozen 4⟩
theorem B2.put {w v : World} {a b : Lg} (h : B2 w a b v) (y : Lg) : B2 w a y (((((v.setCell ⟨w.heap.size + 1, 0, none⟩ (.int .i64 y.frm)).setCell ⟨w.heap.size + 1, 1, none⟩ (.int .i64 y.to_)).setCell ⟨w.heap.size + 1, 2, none⟩ (.int .i64 y.tape)).setCell ⟨w.heap.size + 1, 3, none⟩ (.int .i64 y.comp)).setCell ⟨w.heap.size + 1, 4, none⟩ (.int .i64 y.slope)) := by
  obtain ⟨h1, h2, h3⟩ := h
  refine ⟨(((((h1.far (by show _ ≠ _; simp) _).far (by show _ ≠ _; simp) _).far (by show _ ≠ _; simp) _).far (by show _ ≠ _; simp) _).far (by show _ ≠ _; simp) _), ?_, (((((h3.setCell (by simp) _).setCell (by simp) _).setCell (by simp) _).setCell (by simp) _).setCell (by simp) _)⟩
  have k := ((((h2.set_ 0 (.int .i64 y.frm)).set_ 1 (.int .i64 y.to_)).set_ 2 (.int .i64 y.tape)).set_ 3 (.int .i64 y.comp)).set_ 4 (.int .i64 y.slope)
  simpa using k
set_option maxHeartbeats 4000000 in
set_option maxRecDepth 100000 in
theorem doAgree_model (a b : Lg) (d q : Int) (w : World) : Calls Tryd.prog 42 #[.agg #[.int .i64 a.frm, .int .i64 a.to_, .int .i64 a.tape, .int .i64 a.comp, .int .i64 a.slope], .agg #[.int .i64 b.frm, .int .i64 b.to_, .int .i64 b.tape, .int .i64 b.comp, .int .i64 b.slope], .int .i64 d, .int .i64 q] w (APost (ansAgree a b d q) w) := by
  have HS0 := Lib.hid (B2.start w a b)
  by_cases hok : agOk a b d q = true
  · have hparts : okLg a = true ∧ okLg b = true ∧ 0 ≤ d ∧ 0 ≤ q := by
      simp only [agOk, Bool.and_eq_true, decide_eq_true_eq] at hok
      exact ⟨hok.1.1.1, hok.1.1.2, hok.1.2, hok.2⟩
    obtain ⟨ka, kb, kd, kq⟩ := hparts
    obtain ⟨⟨a0, a1⟩, ⟨a2, a3⟩, -, ⟨a4, a5⟩, ⟨a6, a7⟩, a8, a9⟩ := okLg_lim ka
    obtain ⟨⟨b0, b1⟩, ⟨b2, b3⟩, -, ⟨b4, b5⟩, ⟨b6, b7⟩, b8, b9⟩ := okLg_lim kb
    have HKA := Lib.hid ka
    have HKB := Lib.hid kb
    have HOK := Lib.hid hok
    obtain ⟨y, hy⟩ : ∃ y, aim a b = y := ⟨_, rfl⟩
    have ky := aim_ok (a := a) kb
    rw [hy] at ky
    have HKY := Lib.hid ky
    have HY := Lib.hid hy
    clear ka kb hok hy ky
    have d0 : decide (d < 0) = false := by simp; omega
    have q0 : decide (q < 0) = false := by simp; omega
    go_enter Tryd.func42, Tryd.ntmps42
    go_wp2_with fail
    refine (leg_is a true HKA _).mono ?_
    rintro e w1 ⟨rfl, bb⟩
    have HS1 := Lib.hid (HS0.out.step bb)
    clear bb HS0
    obtain ⟨y0, y1, y2, y3, y4⟩ := HS1.out.cb
    go_wp2_with fail
    refine (leg_is b true HKB _).mono ?_
    rintro e w2 ⟨rfl, bb⟩
    have HS2 := Lib.hid (HS1.out.step bb)
    clear bb HS1 y0 y1 y2 y3 y4
    obtain ⟨y0, y1, y2, y3, y4⟩ := HS2.out.cb
    obtain ⟨x0, x1, x2, x3, x4⟩ := HS2.out.ca
    clear d0 q0
    have hlt2 := HS2.out.2.1.lt
    have d0 : decide (d < 0) = false := by simp; omega
    have q0 : decide (q < 0) = false := by simp; omega
    go_upto_region 3 with fail
    obtain ⟨rv, HRV⟩ : ∃ rv, Hid (decide (a.frm = b.to_ ∧ a.to_ = b.frm) = rv) := ⟨_, Lib.hid rfl⟩
    go_cut [40] (fun v wx => v = .bool rv ∧ B2 w a b wx)
    case first =>
      as_aux_lemma =>
        cases p0 : (a.frm == b.to_)
        · obtain rfl : rv = false := by rw [← HRV.out]; simp at p0 ⊢; omega
          go_wp2_with fail
          go_meet
          case rel => exact ⟨rfl, HS2.out⟩
        · obtain rfl : rv = (a.to_ == b.frm) := by
            rw [← HRV.out]
            simp at p0
            rw [Bool.eq_iff_iff]; simp [p0]
          clear HRV
          go_wp2_with fail
          go_meet
          case rel => exact ⟨rfl, HS2.out⟩
    case rest =>
      as_aux_lemma =>
        obtain ⟨rfl, hB⟩ := hcut
        have HS3 := Lib.hid hB
        have hlt3 := hB.2.1.lt
        clear hB HS2 y0 y1 y2 y3 y4 x0 x1 x2 x3 x4 hlt2 d0 q0
        obtain ⟨y0, y1, y2, y3, y4⟩ := HS3.out.cb
        obtain ⟨f0, f1, f2, f3, f4⟩ := HS3.out.fb
        go_upto_if 40 with fail
        go_cut [41] (fun _ wx => B2 w a y wx)
        case first =>
          as_aux_lemma =>
            cases rv
            · have hyb : b = y := by have hc := HRV.out; simp only [decide_eq_false_iff_not] at hc; rw [← HY.out]; unfold aim; rw [if_neg hc]
              have HYB := Lib.hid hyb
              clear hyb
              go_wp2_with fail
              go_meet
              case rel => exact HYB.out ▸ HS3.out
            · have HR := Lib.hid (show revLg b = y by have hc := HRV.out; simp only [decide_eq_true_eq] at hc; rw [← HY.out]; unfold aim; rw [if_pos hc])
              go_wp2_with fail
              refine (rev_is b y HR _ b6 (by omega) (by omega) (by omega)).mono ?_
              rintro e w4 ⟨rfl, bb⟩
              have HS4 := Lib.hid (HS3.out.step bb)
              clear bb HS3 y0 y1 y2 y3 y4 f0 f1 f2 f3 f4
              obtain ⟨y0, y1, y2, y3, y4⟩ := HS4.out.cb
              obtain ⟨f0, f1, f2, f3, f4⟩ := HS4.out.fb
              go_wp2_with fail
              go_meet
              case rel => exact HS4.out.put y
        case rest =>
          as_aux_lemma =>
            have HS4 := Lib.hid hcut
            have hlt4 := hcut.2.1.lt
            clear hcut HS3 y0 y1 y2 y3 y4 f0 f1 f2 f3 f4 hlt3
            obtain ⟨y0, y1, y2, y3, y4⟩ := HS4.out.cb
            obtain ⟨x0, x1, x2, x3, x4⟩ := HS4.out.ca
            obtain ⟨-, -, -, ⟨c4, c5⟩, ⟨c6, c7⟩, c8, c9⟩ := okLg_lim HKY.out
            by_cases hm : a.frm = y.frm ∧ a.to_ = y.to_
            · have HA := Lib.hid (show ansAgree a b d q = .tuple #[.bool (near a y d q), .bool true] by unfold ansAgree; rw [HY.out, if_pos ⟨HOK.out, hm⟩])
              have m0 : (a.frm != y.frm) = false := by simpa using hm.1
              have m1 : (a.to_ != y.to_) = false := by simpa using hm.2
              obtain ⟨tt, HT⟩ : ∃ tt, Hid (tn.turn a.comp y.comp = tt) := ⟨_, Lib.hid rfl⟩
              have HTA := Lib.hid (show tn.ansTurn a.comp y.comp = .tuple #[.int .i64 tt, .bool true] by unfold tn.ansTurn; rw [if_pos ⟨⟨a6, a7⟩, c6, c7⟩, HT.out])
              obtain ⟨s1, HS⟩ : ∃ s, Hid (mx (a.slope - y.slope) (y.slope - a.slope) = s) := ⟨_, Lib.hid rfl⟩
              obtain ⟨s2, HU⟩ : ∃ s, Hid (mx (a.tape - y.tape) (y.tape - a.tape) = s) := ⟨_, Lib.hid rfl⟩
              have HN := Lib.hid (show near a y d q = (decide (tt ≤ d) && decide (s1 ≤ d) && decide (s2 ≤ q)) by unfold near; rw [HT.out, HS.out, HU.out])
              clear hm
              go_wp2_with fail
              refine (tn.turn_model a.comp y.comp _).mono ?_
              rintro e w5 ⟨rfl, bb⟩
              rw [HTA.out]
              have HS5 := Lib.hid (HS4.out.step bb)
              clear bb HS4 y0 y1 y2 y3 y4 x0 x1 x2 x3 x4
              obtain ⟨y0, y1, y2, y3, y4⟩ := HS5.out.cb
              obtain ⟨x0, x1, x2, x3, x4⟩ := HS5.out.ca
              go_wp2_with fail
              refine (most_is _ _ s1 HS _).mono ?_
              rintro e w' ⟨rfl, rfl⟩
              by_cases z1 : tt ≤ d
              · have z1d : decide (tt ≤ d) = true := by simpa using z1
                by_cases z2 : s1 ≤ d
                · have z2d : decide (s1 ≤ d) = true := by simpa using z2
                  go_wp2_with fail
                  refine (most_is _ _ s2 HU _).mono ?_
                  rintro e w' ⟨rfl, rfl⟩
                  go_wp2_with fail
                  go_ret2
                  exact ⟨by rw [HA.out, HN.out, z1d, z2d]; rfl, HS5.out.2.2⟩
                · have z2d : decide (s1 ≤ d) = false := by simpa using z2
                  go_wp2_with fail
                  go_ret2
                  exact ⟨by rw [HA.out, HN.out, z1d, z2d]; rfl, HS5.out.2.2⟩
              · have z1d : decide (tt ≤ d) = false := by simpa using z1
                go_wp2_with fail
                go_ret2
                exact ⟨by rw [HA.out, HN.out, z1d]; rfl, HS5.out.2.2⟩
            · have HA := Lib.hid (show ansAgree a b d q = .tuple #[.bool false, .bool false] by unfold ansAgree; rw [HY.out, if_neg (fun k => hm k.2)])
              cases m0 : (a.frm != y.frm)
              · have m1 : (a.to_ != y.to_) = true := by simp at m0 ⊢; exact fun k => hm ⟨m0, k⟩
                clear hm
                go_wp2_with fail
                go_ret2
                exact ⟨by rw [HA.out]; rfl, HS4.out.2.2⟩
              · clear hm
                go_wp2_with fail
                go_ret2
                exact ⟨by rw [HA.out]; rfl, HS4.out.2.2⟩
  · have HA := Lib.hid (show ansAgree a b d q = .tuple #[.bool false, .bool false] by unfold ansAgree; rw [if_neg (fun k => hok k.1)])
    rw [HA.out]
    cases ka : okLg a
    · have HKA := Lib.hid ka
      clear ka hok
      go_enter Tryd.func42, Tryd.ntmps42
      go_wp2_with fail
      refine (leg_is a false HKA _).mono ?_
      rintro e w1 ⟨rfl, bb⟩
      have HS1 := Lib.hid (HS0.out.step bb)
      clear bb HS0
      go_wp2_with fail
      go_ret2
      exact ⟨rfl, HS1.out.2.2⟩
    cases kb : okLg b
    · have HKA := Lib.hid ka
      have HKB := Lib.hid kb
      clear ka kb hok
      go_enter Tryd.func42, Tryd.ntmps42
      go_wp2_with fail
      refine (leg_is a true HKA _).mono ?_
      rintro e w1 ⟨rfl, bb⟩
      have HS1 := Lib.hid (HS0.out.step bb)
      clear bb HS0
      obtain ⟨y0, y1, y2, y3, y4⟩ := HS1.out.cb
      go_wp2_with fail
      refine (leg_is b false HKB _).mono ?_
      rintro e w2 ⟨rfl, bb⟩
      have HS2 := Lib.hid (HS1.out.step bb)
      clear bb
      go_wp2_with fail
      go_ret2
      exact ⟨rfl, HS2.out.2.2⟩
    have hneg : d < 0 ∨ q < 0 := by
      simp only [agOk, ka, kb, Bool.true_and, Bool.and_eq_true, decide_eq_true_eq] at hok
      omega
    have HKA := Lib.hid ka
    have HKB := Lib.hid kb
    clear ka kb hok
    go_enter Tryd.func42, Tryd.ntmps42
    go_wp2_with fail
    refine (leg_is a true HKA _).mono ?_
    rintro e w1 ⟨rfl, bb⟩
    have HS1 := Lib.hid (HS0.out.step bb)
    clear bb HS0
    obtain ⟨y0, y1, y2, y3, y4⟩ := HS1.out.cb
    go_wp2_with fail
    refine (leg_is b true HKB _).mono ?_
    rintro e w2 ⟨rfl, bb⟩
    have HS2 := Lib.hid (HS1.out.step bb)
    clear bb
    by_cases hd : d < 0
    · have d0 : decide (d < 0) = true := by simpa using hd
      go_wp2_with fail
      go_ret2
      exact ⟨rfl, HS2.out.2.2⟩
    · have d0 : decide (d < 0) = false := by simpa using hd
      have q0 : decide (q < 0) = true := by simp; omega
      go_wp2_with fail
      go_ret2
      exact ⟨rfl, HS2.out.2.2⟩
end Go.Proofs.YtiojgmojnnbpiaaDoor.lg
