/-
  The program's sum of a chain of legs.
  Conditions: the variable holds the table of the sines; else none but those that a theorem names.
-/
import Derived.Test.YtpacgdjbclogoaaDoorLgM
import Derived.Deep.DeepCutAuto
import Derived.Deep.RegionWith
import Derived.Deep.QuietTactic
import Derived.BigQuiet
namespace Go.Proofs.YtpacgdjbclogoaaDoor.lgi
open Go.RowKit
open reads base ty win lg
set_option linter.unusedVariables false
set_option linter.unusedSimpArgs false

/-- the answer, the sum and a leg in their boxes, and nothing old has turned -/
def CI (w : World) (g : Nat) (s : Sf) (v : World) : Prop := Blk v w.heap.size 25 #[.int .i64 0, .int .i64 0, .int .i64 0] ∧ Blk v g 25 #[.int .i64 s.east, .int .i64 s.north, .int .i64 s.up] ∧ w.heap.size < g ∧ Below w.heap.size w v
theorem CI.step {w v v' : World} {g : Nat} {s : Sf} (h : CI w g s v) (hb : Below v.heap.size v v') : CI w g s v' := ⟨h.1.below hb h.1.lt, h.2.1.below hb h.2.1.lt, h.2.2.1, h.2.2.2.trans (hb.mono h.2.2.2.size)⟩
theorem CI.cs {w v : World} {g : Nat} {s : Sf} (h : CI w g s v) : v.cell? ⟨g, 0, none⟩ = some (.int .i64 s.east) ∧ v.cell? ⟨g, 1, none⟩ = some (.int .i64 s.north) ∧ v.cell? ⟨g, 2, none⟩ = some (.int .i64 s.up) := ⟨h.2.1.cell 0, h.2.1.cell 1, h.2.1.cell 2⟩
theorem CI.fs {w v : World} {g : Nat} {s : Sf} (h : CI w g s v) : v.frozen? ⟨g, 0, none⟩ = false ∧ v.frozen? ⟨g, 1, none⟩ = false ∧ v.frozen? ⟨g, 2, none⟩ = false ∧ g < v.heap.size := ⟨h.2.1.frozen 0, h.2.1.frozen 1, h.2.1.frozen 2, h.2.1.lt⟩
theorem CI.zs {w v : World} {g : Nat} {s : Sf} (h : CI w g s v) : v.cell? ⟨w.heap.size, 0, none⟩ = some (.int .i64 0) ∧ v.cell? ⟨w.heap.size, 1, none⟩ = some (.int .i64 0) ∧ v.cell? ⟨w.heap.size, 2, none⟩ = some (.int .i64 0) := ⟨h.1.cell 0, h.1.cell 1, h.1.cell 2⟩
theorem CI.gs {w v : World} {g : Nat} {s : Sf} (h : CI w g s v) : v.frozen? ⟨w.heap.size, 0, none⟩ = false ∧ v.frozen? ⟨w.heap.size, 1, none⟩ = false ∧ v.frozen? ⟨w.heap.size, 2, none⟩ = false ∧ w.heap.size < v.heap.size := ⟨h.1.frozen 0, h.1.frozen 1, h.1.frozen 2, h.1.lt⟩
theorem CI.put {w v : World} {g : Nat} {s : Sf} (h : CI w g s v) (y : Sf) : CI w g y (((v.setCell ⟨g, 0, none⟩ (.int .i64 y.east)).setCell ⟨g, 1, none⟩ (.int .i64 y.north)).setCell ⟨g, 2, none⟩ (.int .i64 y.up)) := by
  obtain ⟨h1, h2, h3, h4⟩ := h
  refine ⟨((h1.far (by show w.heap.size ≠ g; omega) _).far (by show w.heap.size ≠ g; omega) _).far (by show w.heap.size ≠ g; omega) _, ?_, h3, ((h4.setCell (by show w.heap.size ≤ g; omega) _).setCell (by show w.heap.size ≤ g; omega) _).setCell (by show w.heap.size ≤ g; omega) _⟩
  have k := ((h2.set_ 0 (.int .i64 y.east)).set_ 1 (.int .i64 y.north)).set_ 2 (.int .i64 y.up)
  simpa using k
theorem box_cs {v : World} {X : Nat} {T : TypeId} {t : Lg} (h : Blk v X T #[.int .i64 t.frm, .int .i64 t.to_, .int .i64 t.tape, .int .i64 t.comp, .int .i64 t.slope]) : v.cell? ⟨X, 0, none⟩ = some (.int .i64 t.frm) ∧ v.cell? ⟨X, 1, none⟩ = some (.int .i64 t.to_) ∧ v.cell? ⟨X, 2, none⟩ = some (.int .i64 t.tape) ∧ v.cell? ⟨X, 3, none⟩ = some (.int .i64 t.comp) ∧ v.cell? ⟨X, 4, none⟩ = some (.int .i64 t.slope) ∧ X < v.heap.size := ⟨h.cell 0, h.cell 1, h.cell 2, h.cell 3, h.cell 4, h.lt⟩
set_option maxHeartbeats 4000000 in
set_option maxRecDepth 100000 in
theorem chainShift_impl (A : Option Addr) (n cap : Nat) (ts : List Lg) (w : World) (hn : n ≤ 2000000) (hts : Hid (LgAt w w.heap.size A n ts)) (hT : Hid (Tab w)) :
    Calls Tryd.prog 15 #[.slice A n cap] w (APost (ansChain ts) w) := by
  have hL : Hid (ts.length = n) := Lib.hid hts.out.1
  have HA0 := Lib.hid (hts.out.alloc (.cells #[.int .i64 0, .int .i64 0, .int .i64 0] 25))
  have HB0 := Lib.hid ((Below.refl w.heap.size w).alloc (Nat.le_refl _) (.cells #[.int .i64 0, .int .i64 0, .int .i64 0] 25))
  cases hg : goodLg ts
  · have HA := Lib.hid (show ansChain ts = .tuple #[.agg #[.int .i64 0, .int .i64 0, .int .i64 0], .bool false] by unfold ansChain chOk; rw [hg]; rfl)
    have HG := Lib.hid hg
    clear hg
    rw [HA.out]
    go_enter Tryd.func15, Tryd.ntmps15
    go_wp2_with fail
    refine (areLegs_is A n cap ts false _ hn HA0 HG).mono ?_
    rintro e w1 ⟨rfl, b1⟩
    have HB := Lib.hid (HB0.out.trans (b1.mono HB0.out.size))
    obtain ⟨hc1, hf1⟩ := bcell b1
    have hz : w.heap.size < w1.heap.size := by have := b1.size; simp at this; omega
    clear b1
    go_wp2_with fail
    refine bodyPost_ret (v := .tuple #[.agg #[.int .i64 0, .int .i64 0, .int .i64 0], .bool false]) (by simp [results, Tryd.results15, go_sem, *]) rfl ⟨rfl, ?_⟩
    exact ((HB.out.setCell (by simp) _).setCell (by simp) _).setCell (by simp) _
  · have HG := Lib.hid hg
    have hn12 : n ≤ 12 := by rw [← hL.out]; exact goodLg_len hg
    clear hg
    go_enter Tryd.func15, Tryd.ntmps15
    go_wp2_with fail
    refine (areLegs_is A n cap ts true _ hn HA0 HG).mono ?_
    rintro e w1 ⟨rfl, b1⟩
    obtain ⟨g, HGG⟩ : ∃ g, Hid (w1.heap.size = g) := ⟨_, Lib.hid rfl⟩
    have HS1 := Lib.hid (show CI w g ⟨0, 0, 0⟩ (w1.alloc (.cells #[.int .i64 0, .int .i64 0, .int .i64 0] 25)) by
      rw [← HGG.out]
      have z := b1.size
      refine ⟨((Blk.new w _ _).below b1 (by simp)).alloc _, Blk.new w1 _ _, by simp at z; omega, ?_⟩
      exact (HB0.out.trans (b1.mono HB0.out.size)).alloc (by simp at z; omega) _)
    clear b1
    go_wp2_with fail
    rw [HGG.out]
    go_loopw [14] (fun i wr => ∃ (k : Nat) (s : Sf), k ≤ n ∧ i = .int .i64 k ∧ Hid (ssum ts k = s) ∧ Hid (lkAll ts k = true) ∧ CI w g s wr) (fun i _ => n - (intOf i).toNat)
    case atStart => exact ⟨0, ⟨0, 0, 0⟩, Nat.zero_le _, rfl, Lib.hid rfl, Lib.hid rfl, HS1.out⟩
    case round =>
      obtain ⟨k, s, hk, rfl, HV, HI, hF⟩ := hrel
      have HF := Lib.hid hF
      clear hF HS1
      by_cases hlt : k < n
      · obtain ⟨t, htk⟩ := at_lt hL.out hlt
        obtain ⟨gl, rfl, hgl, h0, h1, h2, h3, h4⟩ := (hts.out.below HF.out.2.2.2).2 k t htk
        have sb := ssum_bd (goodLg_all HG.out) k
        rw [HV.out] at sb
        have tb := shf_bd (goodLg_at HG.out htk)
        obtain ⟨sh, HSH⟩ : ∃ sh, Hid (shf t = sh) := ⟨_, Lib.hid rfl⟩
        rw [HSH.out] at tb
        obtain ⟨nx, hnx⟩ : ∃ nx, add3 s sh = nx := ⟨_, rfl⟩
        have HNX := Lib.hid hnx
        have HSN := Lib.hid (show ssum ts (k + 1) = nx by rw [ssum_succ htk, HV.out, HSH.out, hnx])
        have HTB := Lib.hid tb
        have HSB := Lib.hid sb
        have HOT := Lib.hid (goodLg_at HG.out htk)
        have HK := Lib.hid htk
        clear htk tb sb hnx
        have hki : (k : Int) < (n : Int) := by omega
        have hk0 : 0 ≤ (k : Int) := by omega
        have hkd : decide (k < n) = true := by simpa using hlt
        obtain ⟨lk, hlk⟩ : ∃ lk, lkAt ts k = lk := ⟨_, rfl⟩
        have HLK := Lib.hid hlk
        obtain ⟨X, HX⟩ : ∃ X, Hid (wr.heap.size = X) := ⟨_, Lib.hid rfl⟩
        obtain ⟨W1, HW1⟩ : ∃ W1, Hid (wr.alloc (.cells #[.int .i64 t.frm, .int .i64 t.to_, .int .i64 t.tape, .int .i64 t.comp, .int .i64 t.slope] 28) = W1) := ⟨_, Lib.hid rfl⟩
        have HF1 := Lib.hid (show CI w g s W1 by rw [← HW1.out]; exact HF.out.step ((Below.refl _ _).alloc (Nat.le_refl _) _))
        have HBX := Lib.hid (show Blk W1 X 28 #[.int .i64 t.frm, .int .i64 t.to_, .int .i64 t.tape, .int .i64 t.comp, .int .i64 t.slope] by rw [← HW1.out, ← HX.out]; exact Blk.new _ _ _)
        go_wp2_with fail
        rw [HW1.out, HX.out]
        clear HW1 HF h0 h1 h2 h3 h4
        go_cut [31] (fun v wx => v = .bool (!lk) ∧ CI w g s wx ∧ Blk wx X 28 #[.int .i64 t.frm, .int .i64 t.to_, .int .i64 t.tape, .int .i64 t.comp, .int .i64 t.slope])
        case first =>
          as_aux_lemma =>
            obtain ⟨x0, x1, x2, x3, x4, xl⟩ := box_cs HBX.out
            by_cases k0 : k = 0
            · subst k0
              obtain rfl : lk = true := by rw [← hlk]; rfl
              clear hlk HLK
              have hgt : decide ((0 : Int) < ((0 : Nat) : Int)) = false := by simp
              have hgt2 : decide ((0 : Int) < 0) = false := by simp
              go_quiet (fail)
              go_wp2_with fail
              go_meet
              case rel => exact ⟨rfl, HF1.out.step (drewN_below _ _), HBX.out.drewN _⟩
            · obtain ⟨j, hkj⟩ : ∃ j, k = j + 1 := ⟨k - 1, by omega⟩
              obtain ⟨p, hpj⟩ : ∃ p, ts[j]? = some p := ⟨_, List.getElem?_eq_getElem (by rw [hL.out]; omega)⟩
              obtain ⟨g', hgg, -, p0, p1, -, -, -⟩ := (hts.out.below HF1.out.2.2.2).2 j p hpj
              obtain rfl : gl = g' := by injection hgg with hgg; injection hgg
              obtain rfl : lk = (p.to_ == t.frm) := by rw [← hlk]; exact lkAt_succ hkj HK.out hpj
              clear hpj hgg hlk HLK
              have hji : (j : Int) < (n : Int) := by omega
              have hj0 : 0 ≤ (j : Int) := by omega
              have hgt : decide ((0 : Int) < (k : Int)) = true := by simp; omega
              have hgt2 : decide (0 < k) = true := by simp; omega
              have hsub : IntKind.i64.wrap ((k : Int) - 1) = (j : Int) := by rw [IntWalk.i64_in _ (by omega)]; omega
              clear hkj k0
              go_quiet (fail)
              go_wp2_with fail
              go_meet
              case rel => exact ⟨by first | rfl | simp [bne], HF1.out.step (drewN_below _ _), HBX.out.drewN _⟩
        case rest =>
          as_aux_lemma =>
            obtain ⟨rfl, hC, hTT⟩ := hcut
            have HC := Lib.hid hC
            have HTT := Lib.hid hTT
            clear hC hTT HF1 HBX hlk
            cases lk
            · have HA := Lib.hid (show ansChain ts = .tuple #[.agg #[.int .i64 0, .int .i64 0, .int .i64 0], .bool false] by unfold ansChain chOk; rw [lkAll_no ts k HLK.out _ (by rw [hL.out]; exact hlt)]; simp)
              obtain ⟨z0, z1, z2⟩ := HC.out.zs
              obtain ⟨f0, f1, f2, f3⟩ := HC.out.gs
              go_wp2_with fail
              refine bodyPost_ret (v := .tuple #[.agg #[.int .i64 0, .int .i64 0, .int .i64 0], .bool false]) (by simp [results, Tryd.results15, go_sem, *]) rfl ⟨by rw [HA.out], ?_⟩
              exact ((HC.out.2.2.2.setCell (by simp) _).setCell (by simp) _).setCell (by simp) _
            · have HN := Lib.hid (show lkAll ts (k + 1) = true by rw [lkAll, HI.out, HLK.out]; rfl)
              obtain ⟨x0, x1, x2, x3, x4, xl⟩ := box_cs HTT.out
              go_wp2_with fail
              have hsz := HC.out.fs.2.2.2
              obtain ⟨s0, s1, s2⟩ := HC.out.cs
              go_region_with (first | (go_at_call 34; refine (along_is t sh HSH _ HOT (Lib.hid (hT.out.below (HC.out.step (drewN_below _ 1)).2.2.2))).mono ?_; rintro e w2 ⟨rfl, b⟩; have HC2 := Lib.hid ((HC.out.step (drewN_below _ 1)).step b); clear b s0 s1 s2; obtain ⟨s0, s1, s2⟩ := HC2.out.cs) | (go_at_call 38; refine (sum_is s sh nx HNX (500 * (k : Int)) _ (by omega) (by omega) HSB.out.1 HSB.out.2.1 HSB.out.2.2 HTB.out.1 HTB.out.2.1 HTB.out.2.2).mono ?_; rintro e w3 ⟨rfl, b⟩; have HC3 := Lib.hid (HC2.out.step b); clear b s0 s1 s2; obtain ⟨s0, s1, s2⟩ := HC3.out.cs; obtain ⟨f0, f1, f2, f3⟩ := HC3.out.fs))
              all_goals
                go_wp2_with fail
                go_roundw
                case rel => exact ⟨k + 1, nx, by omega, by go_num, HSN, HN, HC3.out.put nx⟩
                case measure => simp [intOf]; omega
      · have hkd : decide (k < n) = false := by simpa using hlt
        obtain rfl : k = n := by omega
        have HA := Lib.hid (show ansChain ts = .tuple #[.agg #[.int .i64 s.east, .int .i64 s.north, .int .i64 s.up], .bool true] by unfold ansChain chOk; rw [HG.out, hL.out, HI.out, HV.out]; rfl)
        clear hlt
        obtain ⟨s0, s1, s2⟩ := HF.out.cs
        obtain ⟨z0, z1, z2⟩ := HF.out.zs
        obtain ⟨f0, f1, f2, f3⟩ := HF.out.gs
        go_wp2_with fail
        refine bodyPost_ret (v := .tuple #[.agg #[.int .i64 s.east, .int .i64 s.north, .int .i64 s.up], .bool true]) (by simp [results, Tryd.results15, go_sem, *]) rfl ⟨by rw [HA.out], ?_⟩
        exact ((HF.out.2.2.2.setCell (by simp) _).setCell (by simp) _).setCell (by simp) _
end Go.Proofs.YtpacgdjbclogoaaDoor.lgi
