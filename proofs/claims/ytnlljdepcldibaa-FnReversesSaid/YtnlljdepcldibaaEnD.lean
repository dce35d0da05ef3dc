/-
  The model of the field books: the first entry of a leg.
  Conditions: the entries are valid.
-/
import Derived.Test.YtnlljdepcldibaaEnC
import Derived.Deep.RegionWith
import Derived.Deep.QuietTactic
import Derived.BigQuiet
namespace Go.Proofs.Ytnlljdepcldibaa.en
open Go.RowKit
open reads base ty inn lg rowi mst
set_option linter.unusedVariables false
set_option linter.unusedSimpArgs false

theorem prod_bd {x y : Int} (x0 : 0 ≤ x) (x1 : x ≤ 7) (y0 : 0 ≤ y) (y1 : y ≤ 7) : 0 ≤ x * y ∧ x * y ≤ 49 := by
  refine ⟨Int.mul_nonneg x0 y0, ?_⟩
  have h := Int.mul_le_mul x1 y1 y0 (by omega : (0 : Int) ≤ 7)
  omega
set_option maxHeartbeats 4000000 in
set_option maxRecDepth 100000 in
theorem first_model (A : Option Addr) (n cap : Nat) (ts : List En) (i : Nat) (t : En) (m : Nat) (w : World) (hn : n ≤ 2000000) (hi : Hid (ts[i]? = some t)) (hm : Hid (firstN ts t = m)) (hok : Hid (∀ t ∈ ts, okEn t = true)) (hts : Hid (EnAt w w.heap.size A n ts)) :
    Calls Try.prog 46 #[.slice A n cap, .int .i64 (i : Int)] w fun e w' => e = .returned (.int .i64 (m : Int)) ∧ Below w.heap.size w w' := by
  have hL : Hid (ts.length = n) := Lib.hid hts.out.1
  obtain ⟨q0, ⟨u, q1, q2⟩, q3⟩ := first_ex ts i t hi.out
  rw [hm.out] at q0 q1 q3
  have hin : i < n := by have := lt_at hi.out; rw [hL.out] at this; exact this
  have HU := Lib.hid q1
  have HUS := Lib.hid q2
  have HNO := Lib.hid q3
  clear q1 q2 q3
  obtain ⟨g, rfl, hg, c0, c1, c2, c3, c4, c5⟩ := hts.out.2 i t hi.out
  have HC0 := Lib.hid c0
  have HC1 := Lib.hid c1
  clear c0 c1 c2 c3 c4 c5
  obtain ⟨⟨t0, t1⟩, ⟨t2, t3⟩, -, -, -, -⟩ := okEn_lim (hok.out t (List.mem_of_getElem? hi.out))
  obtain ⟨tp0, tp1⟩ := prod_bd t0 t1 t2 t3
  have hii : (i : Int) < (n : Int) := by omega
  have hi0 : 0 ≤ (i : Int) := by omega
  go_enter Try.func46, Try.ntmps46
  go_wp2_with fail
  go_loopw [5] (fun k wr => ∃ j : Nat, j ≤ m ∧ k = .int .i64 j ∧ Below w.heap.size w wr) (fun k _ => m - (intOf k).toNat)
  case atStart => exact ⟨0, Nat.zero_le _, rfl, Below.refl _ _⟩
  case round =>
    obtain ⟨j, hj, rfl, hB⟩ := hrel
    have HB := Lib.hid hB
    clear hB
    have hcf : wr.cell? ⟨g, i * 6, none⟩ = some (.int .i64 t.frm) := (HB.out.cell (p := ⟨g, i * 6, none⟩) hg).trans HC0.out
    have hct : wr.cell? ⟨g, i * 6 + 1, none⟩ = some (.int .i64 t.to_) := (HB.out.cell (p := ⟨g, i * 6 + 1, none⟩) hg).trans HC1.out
    have hjn : j < n := by omega
    obtain ⟨v, hv⟩ := at_lt hL.out hjn
    obtain ⟨⟨v0, v1⟩, ⟨v2, v3⟩, -, -, -, -⟩ := okEn_lim (hok.out v (List.mem_of_getElem? hv))
    obtain ⟨vp0, vp1⟩ := prod_bd v0 v1 v2 v3
    obtain ⟨g', e', hg', d0, d1, -, -, -, -⟩ := (hts.out.below HB.out).2 j v hv
    have eg : g = g' := by injection e' with e'; injection e'
    subst eg
    clear e' hg'
    have HV := Lib.hid hv
    clear hv
    have hji : (j : Int) < (n : Int) := by omega
    have hj0 : 0 ≤ (j : Int) := by omega
    by_cases hlt : j < m
    · have hs := HNO.out j v hlt HV.out
      by_cases hsum : v.frm + v.to_ = t.frm + t.to_
      · have s1 : ((v.frm + v.to_) != (t.frm + t.to_)) = false := by simp [hsum]
        have s2 : ((v.frm * v.to_) != (t.frm * t.to_)) = true := by
          simp only [bne_iff_ne, ne_eq]
          rcases same_no hs with h | h
          · exact absurd hsum h
          · exact h
        clear hs hsum
        go_wp2_with fail
        go_quiet (fail)
        go_wp2_with fail
        go_roundw
        case rel => exact ⟨j + 1, by omega, by go_num, HB.out.trans ((drewN_below wr _).mono HB.out.size)⟩
        case measure => simp [intOf]; omega
      · have s1 : ((v.frm + v.to_) != (t.frm + t.to_)) = true := by simpa using hsum
        clear hs hsum
        go_wp2_with fail
        go_quiet (fail)
        go_wp2_with fail
        go_roundw
        case rel => exact ⟨j + 1, by omega, by go_num, HB.out.trans ((drewN_below wr _).mono HB.out.size)⟩
        case measure => simp [intOf]; omega
    · obtain rfl : j = m := by omega
      obtain rfl : v = u := by have h1 := HV.out; rw [HU.out] at h1; exact (Option.some.inj h1).symm
      obtain ⟨e1, e2⟩ := same_parts HUS.out
      have s1 : ((v.frm + v.to_) != (t.frm + t.to_)) = false := by simp [e1]
      have s2 : ((v.frm * v.to_) != (t.frm * t.to_)) = false := by simp [e2]
      clear e1 e2 hlt
      go_wp2_with fail
      go_quiet (fail)
      go_wp2_with fail
      go_ret
      exact ⟨rfl, HB.out.trans ((drewN_below wr _).mono HB.out.size)⟩
end Go.Proofs.Ytnlljdepcldibaa.en
