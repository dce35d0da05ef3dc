/-
  WithSkills, by the model.
  Conditions: the list has at most 2000000 elements and lies in one block; names have at most 1048576 bytes.
-/
import Derived.Test.YtidofckanadkpaaPsO
import Derived.Test.YtidofckanadkpaaRowI
namespace Go.Proofs.Ytidofckanadkpaa.psp
open Go.RowKit
open reads base inn ty rowi psn pso
set_option linter.unusedVariables false
set_option linter.unusedSimpArgs false

/-- the Ids of those below k who have these skills -/
def wsN (q : Int) (ts : List Ps) : Nat → List Int
  | 0 => []
  | k + 1 => match ts[k]? with
    | some t => if andI t.skills q = q then wsN q ts k ++ [t.id] else wsN q ts k
    | none => wsN q ts k
theorem wsN_yes {q : Int} {ts : List Ps} {k : Nat} {t : Ps} (h : ts[k]? = some t) (hp : andI t.skills q = q) : wsN q ts (k + 1) = wsN q ts k ++ [t.id] := by
  rw [wsN, h]; exact if_pos hp
theorem wsN_no {q : Int} {ts : List Ps} {k : Nat} {t : Ps} (h : ts[k]? = some t) (hp : ¬andI t.skills q = q) : wsN q ts (k + 1) = wsN q ts k := by
  rw [wsN, h]; exact if_neg hp
theorem wsN_len (q : Int) (ts : List Ps) : ∀ k, (wsN q ts k).length ≤ k
  | 0 => by simp [wsN]
  | k + 1 => by
    have := wsN_len q ts k
    unfold wsN
    split
    · split
      · rw [List.length_append]; simp; omega
      · omega
    · omega
theorem good_len {ts : List Ps} (h : psg.good ts = true) : ts.length ≤ 10 := by simp only [psg.good, Bool.and_eq_true, decide_eq_true_eq] at h; exact h.2
def wsOk (ts : List Ps) (q : Int) : Bool := psg.good ts && btw 0 q 15
/-- WithSkills' Ids -/
def wsIds (ts : List Ps) (q : Int) : List Int := if wsOk ts q then wsN q ts ts.length else []
set_option maxHeartbeats 4000000 in
set_option maxRecDepth 100000 in
theorem withSkills_model (A : Option Addr) (n cap : Nat) (ts : List Ps) (q : Int) (w : World) (hn : n ≤ 2000000) (hs : Hid (∀ t ∈ ts, t.name.size ≤ 1048576)) (hts : Hid (PsAt w w.heap.size A n ts)) :
    Calls Try.prog 40 #[.slice A n cap, .int .i64 q] w (LPost (wsIds ts q) (wsOk ts q) w) := by
  obtain ⟨i0, hi, hz0, hz1, hz2⟩ := info_parts infoI
  have hrow0 : (w.alloc (.cells #[] 3)).ownsRow w.heap.size 3 1 (.slice (some ⟨w.heap.size, 0, none⟩) 0 0) 0 [] := World.ownsRow_made w #[] 0 (Nat.le_refl _) (by decide) (by simp)
  have HRow := Lib.hid hrow0
  have HT := Lib.hid (hts.out.alloc (.cells #[] 3))
  have HB0 := Lib.hid ((Below.refl w.heap.size w).alloc (Nat.le_refl _) (.cells #[] 3))
  have hL : Hid (ts.length = n) := Lib.hid hts.out.1
  clear hrow0
  cases hg : psg.good ts
  · have HG := Lib.hid hg
    have HA := Lib.hid (show wsOk ts q = false by unfold wsOk; rw [hg]; rfl)
    have HI := Lib.hid (show wsIds ts q = [] by unfold wsIds; rw [HA.out]; rfl)
    clear hg
    rw [HA.out, HI.out]
    go_enter Try.func40, Try.ntmps40
    go_wp2_with fail
    refine (psg.good_is A n cap ts false _ hn hs HT HG).mono ?_
    rintro e w1 ⟨rfl, b1⟩
    have HE := Lib.hid (HB0.out.trans (b1.mono HB0.out.size))
    have HR := Lib.hid (row_below HRow.out b1)
    clear b1
    go_wp2_with fail
    go_ret2
    exact ⟨_, rfl, HR.out, HE.out⟩
  cases hq : btw 0 q 15
  · have HG := Lib.hid hg
    have HQ := Lib.hid hq
    have HA := Lib.hid (show wsOk ts q = false by unfold wsOk; rw [hg, hq]; rfl)
    have HI := Lib.hid (show wsIds ts q = [] by unfold wsIds; rw [HA.out]; rfl)
    clear hg hq
    rw [HA.out, HI.out]
    go_enter Try.func40, Try.ntmps40
    go_wp2_with fail
    refine (psg.good_is A n cap ts true _ hn hs HT HG).mono ?_
    rintro e w1 ⟨rfl, b1⟩
    have HE := Lib.hid (HB0.out.trans (b1.mono HB0.out.size))
    have HR := Lib.hid (row_below HRow.out b1)
    clear b1
    go_wp2_with fail
    refine (psg.skills_is q false HQ _).mono ?_
    rintro e w' ⟨rfl, rfl⟩
    go_wp2_with fail
    go_ret2
    exact ⟨_, rfl, HR.out, HE.out⟩
  · have HG := Lib.hid hg
    have HQ := Lib.hid hq
    have HK0 := Lib.hid (good_ok hg)
    have hqb := btw_yes hq
    have hn10 : n ≤ 10 := by rw [← hL.out]; exact good_len hg
    have HA := Lib.hid (show wsOk ts q = true by unfold wsOk; rw [hg, hq]; rfl)
    have HI := Lib.hid (show wsIds ts q = wsN q ts n by unfold wsIds; rw [HA.out, hL.out]; rfl)
    clear hg hq
    rw [HA.out, HI.out]
    go_enter Try.func40, Try.ntmps40
    go_wp2_with fail
    refine (psg.good_is A n cap ts true _ hn hs HT HG).mono ?_
    rintro e w1 ⟨rfl, b1⟩
    have HE := Lib.hid (HB0.out.trans (b1.mono HB0.out.size))
    have HR := Lib.hid (row_below HRow.out b1)
    clear b1 HT HRow
    go_wp2_with fail
    refine (psg.skills_is q true HQ _).mono ?_
    rintro e w' ⟨rfl, rfl⟩
    go_wp2_with fail
    go_loopw [6, 7] (fun v i wr => ∃ (k : Nat) (ids : List Int), k ≤ n ∧ i = .int .i64 k ∧ Hid (wsN q ts k = ids) ∧ Hid (wr.ownsRow w.heap.size 3 1 v ids.length (ints.intsV ids)) ∧ Below w.heap.size w wr) (fun _ i _ => n - (intOf i).toNat)
    case atStart => exact ⟨0, [], Nat.zero_le _, rfl, Lib.hid rfl, HR, HE.out⟩
    case round =>
      obtain ⟨k, ids, hk, rfl, HD, HO, hB⟩ := hrel
      have hlen : ids.length ≤ 10 := by rw [← HD.out]; have := wsN_len q ts k; omega
      have hBs := hB.size
      have HB := Lib.hid hB
      clear hB HE HR
      by_cases hlt : k < n
      · obtain ⟨t, htk⟩ := at_lt hL.out hlt
        obtain ⟨g, rfl, hgB, h0, -, h2, -⟩ := (hts.out.below HB.out).2 k t htk
        have hsk := (ok_bd (HK0.out t (List.mem_of_getElem? htk))).1
        have HK := Lib.hid htk
        clear htk
        have hki : (k : Int) < (n : Int) := by omega
        have hk0 : 0 ≤ (k : Int) := by omega
        have hkd : decide (k < n) = true := by simpa using hlt
        have hand : bits .and .i64 t.skills q = andI t.skills q := and_wrap2 hsk hqb
        by_cases hz : andI t.skills q = q
        · have HN := Lib.hid (show wsN q ts (k + 1) = ids ++ [t.id] by rw [wsN_yes HK.out hz, HD.out])
          rw [hz] at hand
          clear hz
          go_wp2_with (at_builtin; refine wpList_append_own _ rfl _ _ 27 rfl w.heap.size 3 i0 (.int .i64 0) 1 8 Try.underlying27 hi hz0 hz1 hz2 rfl (by decide) _ _ _ rfl (HO.out.alloc _) ⟨wr.heap.size, 0, none⟩ 1 1 [.int .i64 t.id] rfl rfl (cell_one_new _ _ _) (by simp [Value.oneCell']) (by unfold maxLen; omega) (by omega) (by simp; omega) ?_; intro v' w2 hown' hgrow _)
          go_roundw
          case rel =>
            refine ⟨k + 1, ids ++ [t.id], by omega, by go_num, HN, Lib.hid ?_, ?_⟩
            · rw [List.length_append, List.length_singleton, intsV_app]; exact hown'
            · exact (HB.out.alloc HB.out.size _).grown hgrow (by simp; omega) (fun j ej => (HO.out.lt j ej).1)
          case measure => simp [intOf]; omega
        · have HN := Lib.hid (show wsN q ts (k + 1) = ids by rw [wsN_no HK.out hz]; exact HD.out)
          have hd : decide (andI t.skills q = q) = false := by simpa using hz
          have hd' : (andI t.skills q == q) = false := by simpa using hz
          go_wp2_with fail
          go_roundw
          case rel => exact ⟨k + 1, ids, by omega, by go_num, HN, HO, HB.out⟩
          case measure => simp [intOf]; omega
      · have hkd : decide (k < n) = false := by simpa using hlt
        obtain rfl : k = n := by omega
        go_wp2_with fail
        go_ret2
        rw [HD.out]
        exact ⟨_, rfl, HO.out, HB.out⟩
#print axioms withSkills_model
end Go.Proofs.Ytidofckanadkpaa.psp
