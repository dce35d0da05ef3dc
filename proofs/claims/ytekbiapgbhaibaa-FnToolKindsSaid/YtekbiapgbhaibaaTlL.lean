/-
  The model of the tools: ToolsOf.
  Conditions: the tools lie in one block below the call's own.
-/
import Derived.Test.YtekbiapgbhaibaaTlK
import Derived.Laws.OwnMore
import Derived.Laws.Rows
import Derived.Laws.MakeOwn
import Derived.OwnWalk
import Derived.Deep.AppendLies
namespace Go.Proofs.Ytekbiapgbhaibaa.tl
open Go.RowKit
open reads
set_option linter.unusedVariables false

theorem infoInt : (Try.prog.info? 3).map (fun i => (i.zero, i.size, i.bytes)) = some (some (.int .i64 0), 1, 8) := by kernel_rfl
def intsV (xs : List Int) : List Value := xs.map (Value.int .i64)
/-- the Ids of a kind -/
def idsOf (ts : List Tl) (k : Int) : List Int := (ts.filter (fun t => t.kind == k)).map (·.id)
theorem ids_yes {ts : List Tl} {k : Nat} {t : Tl} {q : Int} (h : ts[k]? = some t) (hq : (t.kind == q) = true) : idsOf (ts.take (k + 1)) q = idsOf (ts.take k) q ++ [t.id] := by
  obtain ⟨hk, rfl⟩ := List.getElem?_eq_some_iff.1 h
  unfold idsOf
  rw [List.take_succ_eq_append_getElem hk, List.filter_append]
  simp [hq]
theorem ids_no {ts : List Tl} {k : Nat} {t : Tl} {q : Int} (h : ts[k]? = some t) (hq : (t.kind == q) = false) : idsOf (ts.take (k + 1)) q = idsOf (ts.take k) q := by
  obtain ⟨hk, rfl⟩ := List.getElem?_eq_some_iff.1 h
  unfold idsOf
  rw [List.take_succ_eq_append_getElem hk, List.filter_append]
  simp [hq]
theorem ids_len (ts : List Tl) (q : Int) : (idsOf ts q).length ≤ ts.length := by unfold idsOf; rw [List.length_map]; exact List.length_filter_le _ _
/-- what ToolsOf answers -/
def toOk (ts : List Tl) (q : Int) : Bool := good ts && btw 0 q 2
def toIds (ts : List Tl) (q : Int) : List Int := if toOk ts q = true then idsOf ts q else []
/-- numbers that the call has made, and a word -/
def LPost (xs : List Int) (t : Bool) (w : World) (e : Ending) (w' : World) : Prop :=
  ∃ v, e = .returned (.tuple #[v, .bool t]) ∧ w'.ownsRow w.heap.size 3 1 v xs.length (intsV xs) ∧ Below w.heap.size w w'
theorem own_below {w w' : World} {base size n : Nat} {e : TypeId} {v : Value} {xs : List Value} (h : w.ownsRow base e size v n xs) (hb : Below w.heap.size w w') : w'.ownsRow base e size v n xs :=
  h.kept (row := none) ⟨hb.os, hb.tape, hb.output, hb.size, fun j hj _ => hb.block j hj⟩ (by cases v.ownBlock <;> simp)
theorem good_len {ts : List Tl} (h : good ts = true) : ts.length ≤ 8 := by
  simp only [good, Bool.and_eq_true, decide_eq_true_eq] at h
  exact h.2

set_option maxHeartbeats 4000000 in
set_option maxRecDepth 100000 in
theorem toolsOf_model (A : Option Addr) (n cap : Nat) (ts : List Tl) (q : Int) (w : World) (hn : n ≤ 2000000) (hts : Hid (TlsAt w w.heap.size A n ts)) :
    Calls Try.prog 34 #[.slice A n cap, .int .i64 q] w (LPost (toIds ts q) (toOk ts q) w) := by
  obtain ⟨i0, hi, hz0, hz1, hz2⟩ := info_parts infoInt
  have hrow0 : (w.alloc (.cells #[] 3)).ownsRow w.heap.size 3 1 (.slice (some ⟨w.heap.size, 0, none⟩) 0 0) 0 [] := World.ownsRow_made w #[] 0 (Nat.le_refl _) (by decide) (by simp)
  have HRow := Lib.hid hrow0
  have HT := Lib.hid (show TlsAt (w.alloc (.cells #[] 3)) (w.alloc (.cells #[] 3)).heap.size A n ts from tls_step hts.out ((Below.refl _ _).alloc (Nat.le_refl _) _))
  have HB0 := Lib.hid ((Below.refl w.heap.size w).alloc (Nat.le_refl _) (.cells #[] 3))
  have hL : Hid (ts.length = n) := Lib.hid hts.out.1
  clear hrow0
  cases hg : good ts
  · have HG := Lib.hid hg
    have HA := Lib.hid (show toOk ts q = false by unfold toOk; rw [hg]; rfl)
    have HI := Lib.hid (show toIds ts q = [] by unfold toIds; rw [HA.out]; rfl)
    clear hg
    rw [HA.out, HI.out]
    go_enter Try.func34, Try.ntmps34
    go_wp2_with fail
    refine (good_is A n cap ts false _ hn HT HG).mono ?_
    rintro e w1 ⟨rfl, b1⟩
    have HE := Lib.hid (HB0.out.trans (b1.mono HB0.out.size))
    have HR := Lib.hid (show w1.ownsRow w.heap.size 3 1 (.slice (some ⟨w.heap.size, 0, none⟩) 0 0) 0 [] from own_below HRow.out b1)
    clear b1
    go_wp2_with fail
    go_ret2
    exact ⟨_, rfl, HR.out, HE.out⟩
  cases hq : btw 0 q 2
  · have HG := Lib.hid hg
    have HQ := Lib.hid hq
    have HA := Lib.hid (show toOk ts q = false by unfold toOk; rw [hg, hq]; rfl)
    have HI := Lib.hid (show toIds ts q = [] by unfold toIds; rw [HA.out]; rfl)
    clear hg hq
    rw [HA.out, HI.out]
    go_enter Try.func34, Try.ntmps34
    go_wp2_with fail
    refine (good_is A n cap ts true _ hn HT HG).mono ?_
    rintro e w1 ⟨rfl, b1⟩
    have HE := Lib.hid (HB0.out.trans (b1.mono HB0.out.size))
    have HR := Lib.hid (show w1.ownsRow w.heap.size 3 1 (.slice (some ⟨w.heap.size, 0, none⟩) 0 0) 0 [] from own_below HRow.out b1)
    clear b1
    go_wp2_with fail
    refine (kind_is q false HQ _).mono ?_
    rintro e w' ⟨rfl, rfl⟩
    go_wp2_with fail
    go_ret2
    exact ⟨_, rfl, HR.out, HE.out⟩
  · have HG := Lib.hid hg
    have HQ := Lib.hid hq
    have hn8 : n ≤ 8 := by rw [← hL.out]; exact good_len hg
    have HA := Lib.hid (show toOk ts q = true by unfold toOk; rw [hg, hq]; rfl)
    have HI := Lib.hid (show toIds ts q = idsOf ts q by unfold toIds; rw [HA.out]; rfl)
    clear hg hq
    rw [HA.out, HI.out]
    go_enter Try.func34, Try.ntmps34
    go_wp2_with fail
    refine (good_is A n cap ts true _ hn HT HG).mono ?_
    rintro e w1 ⟨rfl, b1⟩
    have HE := Lib.hid (HB0.out.trans (b1.mono HB0.out.size))
    have HR := Lib.hid (show w1.ownsRow w.heap.size 3 1 (.slice (some ⟨w.heap.size, 0, none⟩) 0 0) 0 [] from own_below HRow.out b1)
    clear b1 HT HRow
    go_wp2_with fail
    refine (kind_is q true HQ _).mono ?_
    rintro e w' ⟨rfl, rfl⟩
    go_wp2_with fail
    go_loopw [6, 7] (fun v i wr => ∃ (k : Nat) (ids : List Int), k ≤ n ∧ i = .int .i64 k ∧ Hid (idsOf (ts.take k) q = ids) ∧ Hid (wr.ownsRow w.heap.size 3 1 v ids.length (intsV ids)) ∧ Below w.heap.size w wr) (fun _ i _ => n - (intOf i).toNat)
    case atStart => exact ⟨0, [], Nat.zero_le _, rfl, Lib.hid (by simp [idsOf]), HR, HE.out⟩
    case round =>
      obtain ⟨k, ids, hk, rfl, HD, HO, hB⟩ := hrel
      have hlen : ids.length ≤ 8 := by rw [← HD.out]; have := ids_len (ts.take k) q; have := List.length_take_le k ts; omega
      have hBs := hB.size
      have HB := Lib.hid hB
      clear hB
      by_cases hlt : k < n
      · obtain ⟨t, htk⟩ : ∃ t, ts[k]? = some t := ⟨_, List.getElem?_eq_getElem (by rw [hL.out]; exact hlt)⟩
        obtain ⟨g, rfl, hgB, h0, h1, -, -⟩ := (hts.out.below HB.out).2 k t htk
        have HK := Lib.hid htk
        clear htk
        have hki : (k : Int) < (n : Int) := by omega
        have hk0 : 0 ≤ (k : Int) := by omega
        have hkd : decide (k < n) = true := by simpa using hlt
        cases hq : (t.kind == q)
        · have HN := Lib.hid (show idsOf (ts.take (k + 1)) q = ids by rw [ids_no HK.out hq]; exact HD.out)
          go_wp2_with fail
          go_roundw
          case rel => exact ⟨k + 1, ids, by omega, by go_num, HN, HO, HB.out⟩
          case measure => simp [intOf]; omega
        · have HN := Lib.hid (show idsOf (ts.take (k + 1)) q = ids ++ [t.id] by rw [ids_yes HK.out hq, HD.out])
          go_wp2_with (at_builtin; refine wpList_append_own _ rfl _ _ 46 rfl w.heap.size 3 i0 (.int .i64 0) 1 8 Try.underlying46 hi hz0 hz1 hz2 rfl (by decide) _ _ _ rfl (HO.out.alloc _) ⟨wr.heap.size, 0, none⟩ 1 1 [.int .i64 t.id] rfl rfl (cell_one_new _ _ _) (by simp [Value.oneCell']) (by unfold maxLen; omega) (by omega) (by simp; omega) ?_; intro v' w2 hown' hgrow _)
          go_roundw
          case rel =>
            refine ⟨k + 1, ids ++ [t.id], by omega, by go_num, HN, Lib.hid ?_, ?_⟩
            · rw [List.length_append, List.length_singleton]
              have e : intsV (ids ++ [t.id]) = intsV ids ++ [.int .i64 t.id] := by simp [intsV]
              rw [e]; exact hown'
            · exact (HB.out.alloc HB.out.size _).grown hgrow (by simp; omega) (fun j ej => (HO.out.lt j ej).1)
          case measure => simp [intOf]; omega
      · have hkd : decide (k < n) = false := by simpa using hlt
        have HF := Lib.hid (show idsOf ts q = ids by rw [← HD.out, List.take_of_length_le (by rw [hL.out]; omega)])
        go_wp2_with fail
        go_ret2
        rw [HF.out]
        exact ⟨_, rfl, HO.out, HB.out⟩
end Go.Proofs.Ytekbiapgbhaibaa.tl
