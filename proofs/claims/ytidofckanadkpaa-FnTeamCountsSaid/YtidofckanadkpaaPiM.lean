/-
  A person among others, by the library's slices.Contains.
  A copy of a list of people, people without some others, by the program.
  All teams among some people, by the program's search.
  All teams, CountTeams, SmallestTeam, by the program.
  SmallestTeam, by the program.
  The first team beside which more are possible, SplitTeams, by the program.
  Conditions: those that each theorem names.
-/
import Derived.Test.YtidofckanadkpaaPiF
import Derived.Deep.RegionHeld3
import Derived.Test.YtidofckanadkpaaTab
import Derived.Lib.SliceRun
import Derived.Deep.DeepCutAuto
import Derived.Test.YtidofckanadkpaaPqG
namespace Go.Proofs.Ytidofckanadkpaa.pi5
open Go.RowKit
open reads base inn ty rowi psk psl psm psn pso psp pq
set_option linter.unusedVariables false
set_option linter.unusedSimpArgs false

/-- whether the element is there, and where; the call has made memory -/
def IxB (t : Bool) (w : World) (e : Ending) (w' : World) : Prop := ∃ r : Int, e = .returned (.int .i64 r) ∧ (-1 ≤ r ∧ r ≤ 2000000) ∧ decide (0 ≤ r) = t ∧ Below w.heap.size w w'
theorem eqP_symm (a b : Ps) : pt.eqP a b = pt.eqP b a := by
  unfold pt.eqP
  rw [Bool.eq_iff_iff]
  simp only [Bool.and_eq_true, beq_iff_eq]
  exact ⟨fun ⟨h1, h2, h3, h4⟩ => ⟨h1.symm, h2.symm, h3.symm, h4.symm⟩, fun ⟨h1, h2, h3, h4⟩ => ⟨h1.symm, h2.symm, h3.symm, h4.symm⟩⟩
theorem inP_no {ps : List Ps} {x : Ps} (h : ps.all (fun u => !pt.eqP x u) = true) : pt.inP ps x = false := by
  rw [List.all_eq_true] at h
  unfold pt.inP; rw [List.any_eq_false]; intro u hu; have := h u hu; rw [eqP_symm]; simpa using this
theorem inP_yes {ps : List Ps} {x u : Ps} {k : Nat} (h : ps[k]? = some u) (e : pt.eqP x u = true) : pt.inP ps x = true := by
  unfold pt.inP; rw [List.any_eq_true]; exact ⟨u, List.mem_of_getElem? h, by rw [eqP_symm]; exact e⟩
set_option maxHeartbeats 8000000 in
set_option maxRecDepth 100000 in
theorem index_people (A : Option Addr) (n c : Nat) (ps : List Ps) (x : Ps) (t : Bool) (h : Hid (pt.inP ps x = t)) (w : World) (hn : n ≤ 2000000) (hx : Hid (PsAt w w.heap.size A n ps)) :
    Calls Try.prog 109 #[.slice A n c, .agg #[.int .i64 x.id, .string x.name, .int .i64 x.skills, .int .i64 x.trips]] w (IxB t w) := by
  have hL : Hid (ps.length = n) := Lib.hid hx.out.1
  obtain ⟨B, HBB⟩ : ∃ B, Hid (w.heap.size = B) := ⟨_, Lib.hid rfl⟩
  obtain ⟨W0, HW0⟩ : ∃ W0, Hid (w = W0) := ⟨_, Lib.hid rfl⟩
  have HT := Lib.hid (show PsAt W0 B A n ps by rw [← HBB.out, ← HW0.out]; exact hx.out)
  have HB1 := Lib.hid (show ∀ v, Below B W0 v → Below w.heap.size w v from fun v hv => by rw [HBB.out, HW0.out]; exact hv)
  obtain ⟨X, HX⟩ : ∃ X, Hid (w.heap.size = X) := ⟨_, Lib.hid rfl⟩
  obtain ⟨W1, HW1⟩ : ∃ W1, Hid (w.alloc (.cells #[.int .i64 x.id, .string x.name, .int .i64 x.skills, .int .i64 x.trips] 41) = W1) := ⟨_, Lib.hid rfl⟩
  have HSX := Lib.hid (show psg.SX W1 B W0 X x from ⟨by rw [← HW1.out, ← HX.out]; exact Blk.new _ _ _, by rw [← HW1.out, ← HBB.out, ← HW0.out]; exact (Below.refl _ _).alloc (Nat.le_refl _) _⟩)
  clear hx
  go_enter Try.func109, Try.ntmps109
  go_wp2_with fail
  rw [HW1.out, HX.out]
  clear HW1
  go_loopw [8] (fun i wr => ∃ k : Nat, k ≤ n ∧ i = .int .i64 k ∧ Hid ((ps.take k).all (fun u => !pt.eqP x u) = true) ∧ psg.SX wr B W0 X x) (fun i _ => n - (intOf i).toNat)
  case atStart => exact ⟨0, Nat.zero_le _, rfl, Lib.hid (by simp), HSX.out⟩
  case round =>
    obtain ⟨k, hk, rfl, HI, hS⟩ := hrel
    have HS := Lib.hid hS
    clear hS HSX
    have hk0 : 0 ≤ (k : Int) := by omega
    by_cases h1 : k < n
    · have hki : (k : Int) < (n : Int) := by omega
      have hkd : decide (k < n) = true := by simpa using h1
      obtain ⟨u, huk⟩ := at_lt hL.out h1
      obtain ⟨g, rfl, hg, c0, c1, c2, c3⟩ := HT.out.2 k u huk
      have HK := Lib.hid huk
      clear huk
      obtain ⟨r, hr⟩ : ∃ r, pt.eqP x u = r := ⟨_, rfl⟩
      have HR := Lib.hid hr
      clear hr
      go_wp2_with fail
      refine wp_region_held_drew (S := (fun w' => w'.cell? ⟨X, 0, none⟩ = some (.int .i64 x.id) ∧ w'.cell? ⟨X, 1, none⟩ = some (.string x.name) ∧ w'.cell? ⟨X, 2, none⟩ = some (.int .i64 x.skills) ∧ w'.cell? ⟨X, 3, none⟩ = some (.int .i64 x.trips) ∧ (∀ b o, b < B → w'.cell? ⟨b, o, none⟩ = W0.cell? ⟨b, o, none⟩) ∧ psg.SX w' B W0 X x)) (by kernel_rfl) ?_ (fun hHeld => ?_)
      · exact psg.sx_mk HS.out.drew
      refine' wpAnyH_take (i := 0) (v := ?vr1_0) rfl (by kernel_rfl) (by kernel_rfl) (by kernel_rfl) (fun _ _ _ h => h) (Or.inl ⟨by rfl, ?hyr1_0⟩) (by assumption) ?restr1_0
      case hyr1_0 => (intro w hSw; (try dsimp only at hSw); go_simp; try (with_reducible rfl))
      simp only [Act.put, List.getElem_toArray, List.getElem_cons_succ, List.getElem_cons_zero, List.setIfInBounds_toArray, List.set_cons_zero, List.set_cons_succ]
      refine' wpAnyH_take (i := 1) (v := ?vr1_1) rfl (by kernel_rfl) (by kernel_rfl) (by kernel_rfl) (fun _ _ _ h => h) (Or.inl ⟨by rfl, ?hyr1_1⟩) (by assumption) ?restr1_1
      case hyr1_1 => (intro w hSw; (try dsimp only at hSw); go_simp; try (with_reducible rfl))
      simp only [Act.put, List.getElem_toArray, List.getElem_cons_succ, List.getElem_cons_zero, List.setIfInBounds_toArray, List.set_cons_zero, List.set_cons_succ]
      refine' wpAnyH_take (i := 2) (v := ?vr1_2) rfl (by kernel_rfl) (by kernel_rfl) (by kernel_rfl) (fun _ _ _ h => h) (Or.inl ⟨by rfl, ?hyr1_2⟩) (by assumption) ?restr1_2
      case hyr1_2 => (intro w hSw; (try dsimp only at hSw); go_simp; try (with_reducible rfl))
      simp only [Act.put, List.getElem_toArray, List.getElem_cons_succ, List.getElem_cons_zero, List.setIfInBounds_toArray, List.set_cons_zero, List.set_cons_succ]
      refine' wpAnyH_take (i := 3) (v := ?vr1_3) rfl (by kernel_rfl) (by kernel_rfl) (by kernel_rfl) (fun _ _ _ h => h) (Or.inl ⟨by rfl, ?hyr1_3⟩) (by assumption) ?restr1_3
      case hyr1_3 => (intro w hSw; (try dsimp only at hSw); go_simp; try (with_reducible rfl))
      simp only [Act.put, List.getElem_toArray, List.getElem_cons_succ, List.getElem_cons_zero, List.setIfInBounds_toArray, List.set_cons_zero, List.set_cons_succ]
      refine' wpAnyH_take (i := 4) (v := ?vr1_4) rfl (by kernel_rfl) (by kernel_rfl) (by kernel_rfl) (fun _ _ _ h => h) (Or.inl ⟨by rfl, ?hyr1_4⟩) (by assumption) ?restr1_4
      case hyr1_4 => (intro w hSw; (try dsimp only at hSw); go_simp; try (with_reducible rfl))
      simp only [Act.put, List.getElem_toArray, List.getElem_cons_succ, List.getElem_cons_zero, List.setIfInBounds_toArray, List.set_cons_zero, List.set_cons_succ]
      refine' wpAnyH_take (i := 5) (v := .bool r) rfl (by kernel_rfl) (by kernel_rfl) (by kernel_rfl) (fun _ _ _ h => h) (Or.inl ⟨by rfl, ?hye⟩) (by assumption) ?reste
      case hye =>
        intro w hSw
        rw [← HR.out]
        (try dsimp only at hSw)
        unfold pt.eqP
        go_simp
        by_cases p1 : x.id = u.id <;> by_cases p2 : x.name.toList = u.name.toList <;> by_cases p3 : x.skills = u.skills <;> by_cases p4 : x.trips = u.trips <;> simp [p1, p2, p3, p4]
      simp only [Act.put, List.getElem_toArray, List.getElem_cons_succ, List.getElem_cons_zero, List.setIfInBounds_toArray, List.set_cons_zero, List.set_cons_succ]
      refine wpAnyH_done (by kernel_rfl) ?_ _
      have HS2 := Lib.hid hHeld.2.2.2.2.2
      clear hHeld
      cases r
      · have HN := Lib.hid (all_take (p := fun u => !pt.eqP x u) HK.out HI.out (by simp only [HR.out]; rfl))
        go_wp2_with fail
        go_roundw
        case rel => exact ⟨k + 1, by omega, by go_num, HN, HS2.out⟩
        case measure => simp [intOf]; omega
      · have HF := Lib.hid (show pt.inP ps x = true from inP_yes HK.out HR.out)
        go_wp2_with fail
        go_ret
        exact ⟨k, rfl, by omega, by rw [← h.out, HF.out]; simp, HB1.out _ HS2.out.2⟩
    · have hkd : decide (k < n) = false := by simpa using h1
      obtain rfl : k = n := by omega
      have HF := Lib.hid (show pt.inP ps x = false from inP_no (by have := HI.out; rwa [List.take_of_length_le (by rw [hL.out]; exact Nat.le_refl _)] at this))
      clear h1
      go_wp2_with fail
      go_ret
      exact ⟨-1, rfl, by omega, by rw [← h.out, HF.out]; rfl, HB1.out _ HS.out.2⟩
theorem contains_people (A : Option Addr) (n c : Nat) (ps : List Ps) (x : Ps) (t : Bool) (h : Hid (pt.inP ps x = t)) (w : World) (hn : n ≤ 2000000) (hx : Hid (PsAt w w.heap.size A n ps)) :
    Calls Try.prog 103 #[.slice A n c, .agg #[.int .i64 x.id, .string x.name, .int .i64 x.skills, .int .i64 x.trips]] w (BPost t w) := by
  have HXA := Lib.hid (hx.out.alloc (.cells #[.int .i64 x.id, .string x.name, .int .i64 x.skills, .int .i64 x.trips] 41))
  go_enter Try.func103, Try.ntmps103
  go_wp2_with fail
  refine (index_people A n c ps x t h _ hn HXA).mono ?_
  rintro e w1 ⟨r, rfl, ⟨h1, h2⟩, h3, b1⟩
  have HB := Lib.hid (((Below.refl w.heap.size w).alloc (Nat.le_refl _) (.cells #[.int .i64 x.id, .string x.name, .int .i64 x.skills, .int .i64 x.trips] 41)).trans (b1.mono (by simp)))
  clear b1
  go_wp2_with fail
  go_ret
  exact ⟨rfl, HB.out⟩
end Go.Proofs.Ytidofckanadkpaa.pi5

namespace Go.Proofs.Ytidofckanadkpaa.pi5
open Go.RowKit
open reads base inn ty rowi psk psl psm psn pso psp pq tab
set_option linter.unusedVariables false
set_option linter.unusedSimpArgs false
set_option maxRecDepth 100000

/-- people that the call has made -/
def QPost (ps : List Ps) (w : World) (e : Ending) (w' : World) : Prop :=
  ∃ v, e = .returned v ∧ w'.ownsRow w.heap.size 41 4 v ps.length (flatPs ps) ∧ Below w.heap.size w w'
set_option maxHeartbeats 4000000 in
theorem clone_people (b n : Nat) (v : Value) (ps : List Ps) (w : World) (hn : n ≤ 2000000) (hl : Hid (ps.length = n)) (ho : Hid (w.ownsRow b 41 4 v n (flatPs ps))) :
    Calls Try.prog 107 #[v] w (QPost ps w) := by
  obtain ⟨i0, hi, hz0, hz1, hz2⟩ := info_parts infoPs
  have hrow0 : (w.alloc (.cells #[] 41)).ownsRow w.heap.size 41 4 (.slice (some ⟨w.heap.size, 0, none⟩) 0 0) 0 [] := World.ownsRow_made w #[] 0 (Nat.le_refl _) (by decide) (by simp)
  have HRow := Lib.hid hrow0
  have HB0 := Lib.hid ((Below.refl w.heap.size w).alloc (Nat.le_refl _) (.cells #[] 41))
  have HFL := Lib.hid (show (flatPs ps).length = n * 4 by rw [flatPs_len, hl.out])
  clear hrow0
  have q22 : ∀ (W : World) (a : Option Addr) (n c n' c' : Nat), (binOp .eql 24 (.slice a n c) (.slice none n' c')).run Try.prog W = .ok (.bool a.isNone) W := fun W a n c n' c' => Lib.run_eql_slice_nil W _ _ a n c n' c' Try.underlying24
  rcases ho.out.2 with ⟨hv, hn0⟩ | ⟨g, cp, cur, hv, hg⟩
  · subst hv
    obtain rfl : n = 0 := hn0
    obtain rfl : ps = [] := List.length_eq_zero_iff.1 hl.out
    go_enter Try.func107, Try.ntmps107
    go_wp2_with fail
    go_ret
    exact ⟨.slice none 0 0, rfl, World.ownsRow_nil _ _ _ _, Below.refl _ _⟩
  · subst hv
    have HC := Lib.hid (show ∀ j u, (flatPs ps)[j]? = some u → (w.alloc (.cells #[] 41)).cell? ((⟨g, 0, none⟩ : Addr).add j) = some u from (ho.out.alloc _).cells rfl)
    go_enter Try.func107, Try.ntmps107
    go_wp2_with (at_builtin; refine wpList_append_own _ rfl _ _ 24 rfl w.heap.size 41 i0 _ 4 40 Try.underlying24 hi hz0 hz1 hz2 rfl (by decide) _ _ _ rfl HRow.out ⟨g, 0, none⟩ n cp (flatPs ps) rfl HFL.out HC.out (flat_one ps) (by unfold maxLen; omega) (by omega) (by simp) ?_; intro v' w3 hown' hgrow _)
    rw [Nat.zero_add, List.nil_append] at hown'
    have HB3 := Lib.hid (HB0.out.grown hgrow (by simp) (fun j ej => (HRow.out.lt j ej).1))
    have HO := Lib.hid hown'
    clear hown' hgrow
    go_wp2_with fail
    go_ret
    exact ⟨v', rfl, by rw [hl.out]; exact HO.out, HB3.out⟩
theorem wo_take {r s : List Ps} {k : Nat} {t : Ps} (h : r[k]? = some t) : pt.wo (r.take (k + 1)) s = pt.wo (r.take k) s ++ (if pt.inP s t then [] else [t]) := by
  unfold pt.wo
  rw [base.take_snoc h, List.filter_append]
  cases e : pt.inP s t <;> simp [e]
theorem wo_len (r s : List Ps) : (pt.wo r s).length ≤ r.length := (pt.wo_sub r s).length_le
set_option maxHeartbeats 8000000 in
set_option maxRecDepth 100000 in
theorem without_is (A : Option Addr) (n cap : Nat) (ts : List Ps) (A' : Option Addr) (m cap' : Nat) (ss P : List Ps) (w : World) (hP : Hid (pt.wo ts ss = P)) (hn : n ≤ 2000000) (hm : m ≤ 2000000) (hts : Hid (PsAt w w.heap.size A n ts)) (hss : Hid (PsAt w w.heap.size A' m ss)) :
    Calls Try.prog 83 #[.slice A n cap, .slice A' m cap'] w (QPost P w) := by
  obtain ⟨i0, hi, hz0, hz1, hz2⟩ := info_parts infoPs
  have hL : Hid (ts.length = n) := Lib.hid hts.out.1
  have hrow0 : (w.alloc (.cells #[] 41)).ownsRow w.heap.size 41 4 (.slice (some ⟨w.heap.size, 0, none⟩) 0 0) 0 [] := World.ownsRow_made w #[] 0 (Nat.le_refl _) (by decide) (by simp)
  have HRow := Lib.hid hrow0
  have HB0 := Lib.hid ((Below.refl w.heap.size w).alloc (Nat.le_refl _) (.cells #[] 41))
  clear hrow0
  go_enter Try.func83, Try.ntmps83
  go_wp2_with fail
  go_loopw [5, 11] (fun v i wr => ∃ (k p c3 : Nat) (A3 : Option Addr) (ps : List Ps), k ≤ n ∧ p ≤ k ∧ i = .int .i64 k ∧ v = .slice A3 p c3 ∧ Hid (ps.length = p) ∧ Hid (pt.wo (ts.take k) ss = ps) ∧ Hid (wr.ownsRow w.heap.size 41 4 (.slice A3 p c3) p (flatPs ps)) ∧ Below w.heap.size w wr) (fun _ i _ => n - (intOf i).toNat)
  case atStart => exact ⟨0, 0, _, _, [], Nat.zero_le _, Nat.zero_le _, rfl, rfl, Lib.hid rfl, Lib.hid rfl, HRow, HB0.out⟩
  case round =>
    obtain ⟨k, p, c3, A3, ps, hk, hpk, rfl, rfl, HPL, HGN, HO, hB⟩ := hrel
    have HBr := Lib.hid hB
    have hBs := hB.size
    clear hB HRow HB0
    by_cases hlt : k < n
    · have hki : (k : Int) < (n : Int) := by omega
      have hk0 : 0 ≤ (k : Int) := by omega
      have hkd : decide (k < n) = true := by simpa using hlt
      obtain ⟨t, htk⟩ := at_lt hL.out hlt
      obtain ⟨g, rfl, hg, h0, h1, h2, h3⟩ := (hts.out.below HBr.out).2 k t htk
      have HWT := Lib.hid (wo_take (s := ss) htk)
      obtain ⟨X, HX⟩ : ∃ X, Hid (wr.heap.size = X) := ⟨_, Lib.hid rfl⟩
      obtain ⟨W, HW, HWO, HWB, HWC⟩ : ∃ W, Hid (wr.alloc (.cells #[.int .i64 t.id, .string t.name, .int .i64 t.skills, .int .i64 t.trips] 41) = W) ∧ Hid (W.ownsRow w.heap.size 41 4 (.slice A3 p c3) p (flatPs ps)) ∧ Hid (Below w.heap.size w W) ∧ Hid (Blk W wr.heap.size 41 #[.int .i64 t.id, .string t.name, .int .i64 t.skills, .int .i64 t.trips]) := ⟨_, Lib.hid rfl, Lib.hid (HO.out.alloc _), Lib.hid (HBr.out.alloc hBs _), Lib.hid (Blk.new _ _ _)⟩
      rw [HX.out] at HWC
      have HSS := Lib.hid (show PsAt W W.heap.size A' m ss from hss.out.step HWB.out)
      obtain ⟨r, HR⟩ : ∃ r, Hid (pt.inP ss t = r) := ⟨_, Lib.hid rfl⟩
      clear htk
      go_upto_region 5 with fail
      rw [HW.out, HX.out]
      have e0 := HWC.out.cell 0
      have e1 := HWC.out.cell 1
      have e2 := HWC.out.cell 2
      have e3 := HWC.out.cell 3
      clear h0 h1 h2 h3 HW
      go_wp2_with fail
      refine (contains_people A' m cap' ss t r HR _ hm HSS).mono ?_
      rintro e w3 ⟨rfl, b3⟩
      have HK3 := Lib.hid (HWC.out.below b3 HWC.out.lt)
      have HB3 := Lib.hid (HWB.out.trans (b3.mono HWB.out.size))
      have HO3 := Lib.hid (row_below HWO.out b3)
      clear b3 e0 e1 e2 e3
      have e0 := HK3.out.cell 0
      have e1 := HK3.out.cell 1
      have e2 := HK3.out.cell 2
      have e3 := HK3.out.cell 3
      have hWs := HB3.out.size
      cases r
      · have HNX := Lib.hid (show pt.wo (ts.take (k + 1)) ss = ps ++ [t] by rw [HWT.out, HGN.out, HR.out]; rfl)
        go_wp2_with (at_builtin; refine wpList_append_own _ rfl _ _ 24 rfl w.heap.size 41 i0 _ 4 40 Try.underlying24 hi hz0 hz1 hz2 rfl (by decide) _ _ _ rfl (HO3.out.alloc _) ⟨w3.heap.size, 0, none⟩ 1 1 [.int .i64 t.id, .string t.name, .int .i64 t.skills, .int .i64 t.trips] rfl rfl (World.news_of_block (alloc_at rfl)) (by simp [Value.oneCell']) (by unfold maxLen; omega) (by omega) (by simp; omega) ?_; intro v' w9 hown' hgrow _)
        obtain ⟨A9, c9, rfl⟩ := row_slice hown'
        go_roundw
        case rel =>
          refine ⟨k + 1, p + 1, c9, A9, ps ++ [t], by omega, by omega, by go_num, rfl, Lib.hid (by simp [HPL.out]), HNX, Lib.hid (by rw [flatPs_app]; exact hown'), ?_⟩
          exact (HB3.out.alloc hWs _).grown hgrow (by simp; omega) (fun j ej => (HO3.out.lt j ej).1)
        case measure => simp [intOf]; omega
      · have HNX := Lib.hid (show pt.wo (ts.take (k + 1)) ss = ps by rw [HWT.out, HGN.out, HR.out]; simp)
        go_wp2_with fail
        go_roundw
        case rel => exact ⟨k + 1, p, c3, A3, ps, by omega, by omega, by go_num, rfl, HPL, HNX, HO3, HB3.out⟩
        case measure => simp [intOf]; omega
    · have hkd : decide (k < n) = false := by simpa using hlt
      obtain rfl : ps = P := by rw [← HGN.out, List.take_of_length_le (by rw [hL.out]; omega)]; exact hP.out
      clear hlt
      go_wp2_with fail
      go_ret
      exact ⟨.slice A3 p c3, rfl, by rw [HPL.out]; exact HO.out, HBr.out⟩
end Go.Proofs.Ytidofckanadkpaa.pi5

namespace Go.Proofs.Ytidofckanadkpaa.pi5
open Go.RowKit
open reads base inn ty rowi psk psl psm psn pso psp pq tab
set_option linter.unusedVariables false
set_option linter.unusedSimpArgs false
set_option maxRecDepth 100000

/-- only rows of one type were written -/
def Keeps (S : TypeId) (w w' : World) : Prop := w'.os = w.os ∧ w'.tape = w.tape ∧ w'.output = w.output ∧ w.heap.size ≤ w'.heap.size ∧ ∀ k, k < w.heap.size → (∀ cs r, w.heap[k]? ≠ some (.cells cs S r)) → w'.heap[k]? = w.heap[k]?
section
variable {S : TypeId} {w w' w'' : World}
theorem Keeps.refl (S : TypeId) (w : World) : Keeps S w w := ⟨rfl, rfl, rfl, Nat.le_refl _, fun _ _ _ => rfl⟩
theorem Keeps.trans (h : Keeps S w w') (k : Keeps S w' w'') : Keeps S w w'' :=
  ⟨k.1.trans h.1, k.2.1.trans h.2.1, k.2.2.1.trans h.2.2.1, Nat.le_trans h.2.2.2.1 k.2.2.2.1, fun i hi hne => by
    have e := h.2.2.2.2 i hi hne
    exact (k.2.2.2.2 i (Nat.lt_of_lt_of_le hi h.2.2.2.1) (fun cs r => by rw [e]; exact hne cs r)).trans e⟩
theorem Keeps.of_below (h : Below w.heap.size w w') : Keeps S w w' := ⟨h.os, h.tape, h.output, h.size, fun k hk _ => h.block k hk⟩
theorem Keeps.of_grown {b n size : Nat} {v : Value} {us : List Value} (ho : w.ownsRow b S size v n us) (h : w.grownBy w' v.ownBlock) : Keeps S w w' :=
  ⟨h.os, h.tape, h.output, h.size, fun k hk hne => h.block k hk (fun e => by
    rcases ho.2 with ⟨rfl, _⟩ | ⟨g, cap, cur, rfl, _, hg, _⟩
    · simp [Value.ownBlock] at e
    · have : k = g := by simpa [Value.ownBlock] using e
      subst this
      exact hne _ _ hg)⟩
theorem Keeps.own (h : Keeps S w w') {b n size : Nat} {e : TypeId} {v : Value} {us : List Value} (ho : w.ownsRow b e size v n us) (hne : e ≠ S) : w'.ownsRow b e size v n us := by
  refine ⟨ho.1, ?_⟩
  rcases ho.2 with q | ⟨g, cap, cur, h1, h2, hg, rest⟩
  · exact .inl q
  · refine .inr ⟨g, cap, cur, h1, h2, ?_, rest⟩
    rw [h.2.2.2.2 g (Array.getElem?_eq_some_iff.1 hg).1 (fun cs r e => by rw [hg] at e; injection e with e; injection e with _ e2; exact hne e2)]
    exact hg
end
/-- people in memory, from some cell of a block on -/
def PsO (w : World) (B : Nat) (A : Option Addr) (n : Nat) (ts : List Ps) : Prop :=
  ts.length = n ∧ ∀ k t, ts[k]? = some t → ∃ g o, A = some ⟨g, o, none⟩ ∧ g < B ∧ w.cell? ⟨g, o + k * 4, none⟩ = some (.int .i64 t.id) ∧ w.cell? ⟨g, o + k * 4 + 1, none⟩ = some (.string t.name) ∧ w.cell? ⟨g, o + k * 4 + 2, none⟩ = some (.int .i64 t.skills) ∧ w.cell? ⟨g, o + k * 4 + 3, none⟩ = some (.int .i64 t.trips)
theorem PsO.below {w w' : World} {B : Nat} {A : Option Addr} {n : Nat} {ts : List Ps} (h : PsO w B A n ts) (hb : Below B w w') : PsO w' B A n ts :=
  ⟨h.1, fun k t ht => by
    obtain ⟨g, o, e, hg, h0, h1, h2, h3⟩ := h.2 k t ht
    exact ⟨g, o, e, hg, (hb.cell (p := ⟨g, o + k * 4, none⟩) hg).trans h0, (hb.cell (p := ⟨g, o + k * 4 + 1, none⟩) hg).trans h1, (hb.cell (p := ⟨g, o + k * 4 + 2, none⟩) hg).trans h2, (hb.cell (p := ⟨g, o + k * 4 + 3, none⟩) hg).trans h3⟩⟩
theorem PsO.of_at {w : World} {B : Nat} {A : Option Addr} {n : Nat} {ts : List Ps} (h : PsAt w B A n ts) : PsO w B A n ts :=
  ⟨h.1, fun k t ht => by
    obtain ⟨g, e, hg, h0, h1, h2, h3⟩ := h.2 k t ht
    exact ⟨g, 0, e, hg, by simpa using h0, by simpa using h1, by simpa using h2, by simpa using h3⟩⟩
/-- the rest of a list -/
theorem PsO.drop {w : World} {B g o n : Nat} {ts : List Ps} (h : PsO w B (some ⟨g, o, none⟩) n ts) (k : Nat) : PsO w B (some ⟨g, o + k * 4, none⟩) (n - k) (ts.drop k) :=
  ⟨by rw [List.length_drop, h.1], fun i t ht => by
    rw [List.getElem?_drop] at ht
    obtain ⟨g', o', e, hg, h0, h1, h2, h3⟩ := h.2 (k + i) t ht
    injection e with e
    injection e with e1 e2
    subst e1 e2
    have e5 : o + k * 4 + i * 4 = o + (k + i) * 4 := by omega
    exact ⟨g, o + k * 4, rfl, hg, by rw [e5]; exact h0, by rw [e5]; exact h1, by rw [e5]; exact h2, by rw [e5]; exact h3⟩⟩
theorem PsO.nil {w : World} {B : Nat} {A : Option Addr} : PsO w B A 0 [] := ⟨rfl, fun k t h => by simp at h⟩
theorem infoPP : (Try.prog.info? 24).map (fun i => (i.zero, i.size, i.bytes)) = some (some (.slice none 0 0), 1, 24) := by kernel_rfl
theorem sx_step {w w' : World} {B : Nat} {W0 : World} {X : Nat} {t : Ps} (h : psg.SX w B W0 X t) (hB : B ≤ W0.heap.size) (b : Below w.heap.size w w') : psg.SX w' B W0 X t := ⟨h.1.below b h.1.lt, h.2.trans (b.mono (Nat.le_trans hB h.2.size))⟩
theorem sx_five {w : World} {B : Nat} {W0 : World} {X : Nat} {t : Ps} (h : psg.SX w B W0 X t) : w.cell? ⟨X, 0, none⟩ = some (.int .i64 t.id) ∧ w.cell? ⟨X, 1, none⟩ = some (.string t.name) ∧ w.cell? ⟨X, 2, none⟩ = some (.int .i64 t.skills) ∧ w.cell? ⟨X, 3, none⟩ = some (.int .i64 t.trips) ∧ psg.SX w B W0 X t := ⟨h.1.cell 0, h.1.cell 1, h.1.cell 2, h.1.cell 3, h⟩
theorem sx_grown {w w' : World} {B : Nat} {W0 : World} {X : Nat} {t : Ps} {row : Option Nat} (h : psg.SX w B W0 X t) (hg : w.grownBy w' row) (hB : B ≤ w.heap.size) (hr : ∀ g, row = some g → B ≤ g) (hX : X < B) : psg.SX w' B W0 X t :=
  ⟨h.1.grown hg (fun e => by have := hr X e.symm; omega), h.2.grown hg hB hr⟩
/-- people one after the other: whose skills are in bounds -/
theorem okS_app {s : List Ps} {t : Ps} (h : pt.okS s) (ht : 0 ≤ t.skills ∧ t.skills ≤ 15) : pt.okS (s ++ [t]) := fun u hu => by
  rcases List.mem_append.1 hu with q | q
  · exact h u q
  · rw [List.mem_singleton.1 q]; exact ht
/-- what the search answers: the lists that were there, and more -/
def ATPost (b0 : Nat) (R : List (List Ps)) (w : World) (e : Ending) (w' : World) : Prop :=
  ∃ v vs, e = .returned v ∧ w'.ownsRow b0 24 1 v R.length vs ∧ TabV 41 4 flatPs w' b0 vs R ∧ Keeps 24 w w' ∧ Below b0 w w'
/-- what lies open in the search -/
def AT (w : World) (b0 : Nat) (W0 : World) (v : Value) (vs : List Value) (tss : List (List Ps)) (vm : Value) (p : Nat) (s : List Ps) : Prop :=
  w.ownsRow b0 24 1 v tss.length vs ∧ TabV 41 4 flatPs w b0 vs tss ∧ w.ownsRow b0 41 4 vm p (flatPs s) ∧ Keeps 24 W0 w ∧ Below b0 W0 w ∧ b0 ≤ W0.heap.size
theorem AT.step {w w' : World} {b0 : Nat} {W0 : World} {v : Value} {vs : List Value} {tss : List (List Ps)} {vm : Value} {p : Nat} {s : List Ps} (h : AT w b0 W0 v vs tss vm p s) (b : Below w.heap.size w w') : AT w' b0 W0 v vs tss vm p s :=
  ⟨row_below h.1 b, h.2.1.below b, row_below h.2.2.1 b, h.2.2.2.1.trans (Keeps.of_below b), h.2.2.2.2.1.trans (b.mono (Nat.le_trans h.2.2.2.2.2 h.2.2.2.2.1.size)), h.2.2.2.2.2⟩
theorem AT.alloc {w : World} {b0 : Nat} {W0 : World} {v : Value} {vs : List Value} {tss : List (List Ps)} {vm : Value} {p : Nat} {s : List Ps} (h : AT w b0 W0 v vs tss vm p s) (o : Obj) : AT (w.alloc o) b0 W0 v vs tss vm p s := h.step ((Below.refl _ _).alloc (Nat.le_refl _) o)
theorem AT.b0 {w : World} {b0 : Nat} {W0 : World} {v : Value} {vs : List Value} {tss : List (List Ps)} {vm : Value} {p : Nat} {s : List Ps} (h : AT w b0 W0 v vs tss vm p s) : b0 ≤ w.heap.size := Nat.le_trans h.2.2.2.2.2 h.2.2.2.2.1.size
/-- the members are a team: their list is put behind the others -/
theorem AT.put {w w' : World} {b0 : Nat} {W0 : World} {v v' : Value} {vs : List Value} {tss : List (List Ps)} {vm : Value} {p : Nat} {s : List Ps} (h : AT w b0 W0 v vs tss vm p s) (hp : s.length = p) (hown : w'.ownsRow b0 24 1 v' (tss.length + 1) (vs ++ [vm])) (hg : w.grownBy w' v.ownBlock) :
    AT w' b0 W0 v' (vs ++ [vm]) (tss ++ [s]) vm p s := by
  have hm := h.2.2.1.kept hg (own_ne h.2.2.1 h.1 (by decide))
  have ht := h.2.1.grown h.1 hg (by decide)
  refine ⟨by simpa using hown, ht.snoc (by rw [hp]; exact hm), hm, h.2.2.2.1.trans (Keeps.of_grown h.1 hg), ?_, h.2.2.2.2.2⟩
  exact h.2.2.2.2.1.grown hg h.b0 (fun j ej => (h.1.lt j ej).1)
/-- a call that wrote only the list of lists -/
theorem AT.call {w w' : World} {b0 : Nat} {W0 : World} {v v' : Value} {vs vs' : List Value} {tss R : List (List Ps)} {vm : Value} {p : Nat} {s : List Ps} (h : AT w b0 W0 v vs tss vm p s) (ho : w'.ownsRow b0 24 1 v' R.length vs') (ht : TabV 41 4 flatPs w' b0 vs' R) (hk : Keeps 24 w w') (hb : Below b0 w w') : AT w' b0 W0 v' vs' R vm p s :=
  ⟨ho, ht, hk.own h.2.2.1 (by decide), h.2.2.2.1.trans hk, h.2.2.2.2.1.trans hb, h.2.2.2.2.2⟩
/-- the members with one more: a list of its own -/
def MorePost (p : Nat) (s : List Ps) (t : Ps) (W : World) (v : Value) (w' : World) : Prop :=
  ∃ A9 c9, v = .slice A9 (p + 1) c9 ∧ w'.ownsRow W.heap.size 41 4 (.slice A9 (p + 1) c9) (p + 1) (flatPs (s ++ [t])) ∧ Below W.heap.size W w'
set_option maxHeartbeats 16000000 in
theorem app_any : ∀ (q : Nat) (rs s : List Ps) (tss R : List (List Ps)) (vs : List Value) (At : Option Addr) (ct : Nat) (Am : Option Addr) (cm p : Nat) (Ao : Option Addr) (co b0 : Nat) (w : World),
    Hid (rs.length = q) → q ≤ 10 → q ≤ co → Hid (s.length = p) → p ≤ 5 → Hid (pt.okS s) → Hid (pt.okS rs) → Hid (tss ++ pt.dfs pt.teamS 5 s rs = R) → R.length ≤ 100000 →
    Hid (AT w b0 w (.slice At tss.length ct) vs tss (.slice Am p cm) p s) → Hid (PsO w b0 Ao q rs) →
    Calls Try.prog 90 #[.slice At tss.length ct, .slice Am p cm, .slice Ao q co] w (ATPost b0 R w) := by
  intro q
  induction q using Nat.strongRecOn with
  | ind q ih =>
  have IH := Lib.hid ih
  clear ih
  intro rs s tss R vs At ct Am cm p Ao co b0 w HQ hq10 hqc HPL hp5 HKS HKR HDF hR HA HO
  obtain ⟨i0, hi, hz0, hz1, hz2⟩ := info_parts infoPP
  obtain ⟨j0, kj, kz0, kz1, kz2⟩ := info_parts infoPs
  obtain ⟨tl, HTL⟩ : ∃ tl, Hid (tss.length = tl) := ⟨_, Lib.hid rfl⟩
  obtain ⟨tm, HTM⟩ : ∃ t, Hid (pt.teamS s = t) := ⟨_, Lib.hid rfl⟩
  have hPS := own_Ps HPL.out HA.out.2.2.1
  have HPS := Lib.hid hPS
  have htR : tl + 1 ≤ 100001 := by
    rw [← HTL.out]; have e := congrArg List.length HDF.out; rw [List.length_append] at e; omega
  rw [HTL.out]
  clear hPS
  go_enter Try.func90, Try.ntmps90
  go_wp2_with fail
  refine (areTeam_is Am p cm s tm _ (by omega) HKS HPS HTM).mono ?_
  rintro e w1 ⟨rfl, b1⟩
  have HA1 := Lib.hid (HA.out.step b1)
  have HOB := Lib.hid (show ∀ v, Below b0 w v → PsO v b0 Ao q rs from fun v hv => HO.out.below hv)
  clear b1 HA HO
  obtain ⟨T1, HT1⟩ : ∃ T1, Hid (tss ++ (if tm then [s] else []) = T1) := ⟨_, Lib.hid rfl⟩
  obtain ⟨m1, HM1⟩ : ∃ m1, Hid (T1.length = m1) := ⟨_, Lib.hid rfl⟩
  have HD0 := Lib.hid (show T1 ++ (if p = 5 then [] else pt.dfsL pt.teamS 5 s rs) = R by rw [← HT1.out, ← HDF.out, ← HPL.out]; unfold pt.dfs; rw [HTM.out, List.append_assoc])
  go_upto_if 11 with fail
  go_cut [0] (fun v wx => ∃ (A1 : Option Addr) (c1 : Nat) (vs1 : List Value), v = .slice A1 m1 c1 ∧ AT wx b0 w v vs1 T1 (.slice Am p cm) p s)
  case first =>
    as_aux_lemma =>
      cases tm
      · obtain rfl : tss = T1 := by rw [← HT1.out]; simp
        obtain rfl : tl = m1 := by rw [← HTL.out, HM1.out]
        go_wp2_with fail
        go_meet
        case rel => exact ⟨At, ct, vs, rfl, by have := HA1.out; rw [HTL.out] at this; exact this⟩
      · have HT2 := Lib.hid (show tss ++ [s] = T1 by rw [← HT1.out]; rfl)
        obtain rfl : m1 = tl + 1 := by rw [← HM1.out, ← HT2.out, List.length_append, HTL.out]; rfl
        have HOT := Lib.hid (show w1.ownsRow b0 24 1 (.slice At tl ct) tl vs by have := HA1.out.1; rwa [HTL.out] at this)
        have hb0 := HA1.out.b0
        go_wp2_with (at_builtin; refine wpList_append_own _ rfl _ _ 66 rfl b0 24 i0 (.slice none 0 0) 1 24 Try.underlying66 hi hz0 hz1 hz2 rfl (by decide) _ _ _ rfl (HOT.out.alloc _) ⟨w1.heap.size, 0, none⟩ 1 1 [.slice Am p cm] rfl rfl (cell_one_new _ _ _) (by simp [Value.oneCell']) (by unfold maxLen; omega) (by omega) (by simp; omega) ?_; intro v' w9 hown' hgrow _)
        obtain ⟨A9, c9, rfl⟩ := row_slice hown'
        go_meet
        case rel =>
          refine ⟨A9, c9, vs ++ [.slice Am p cm], rfl, ?_⟩
          have := (HA1.out.alloc (.cells #[.slice Am p cm] 24)).put (v' := .slice A9 (tl + 1) c9) (w' := w9) HPL.out (by rw [HTL.out]; exact hown') (by rw [HTL.out]; exact hgrow)
          rw [HT2.out] at this
          exact this
  case rest =>
  obtain ⟨A1, c1, vs1, rfl, hX⟩ := hcut
  have HAX := Lib.hid hX
  clear hX HA1
  by_cases hp : p = 5
  · subst hp
    have HF := Lib.hid (show T1 = R by have := HD0.out; rwa [if_pos rfl, List.append_nil] at this)
    go_wp2_with fail
    go_ret
    exact ⟨.slice A1 m1 c1, vs1, rfl, by rw [← HF.out]; exact HAX.out.1, by rw [← HF.out]; exact HAX.out.2.1, HAX.out.2.2.2.1, HAX.out.2.2.2.2.1⟩
  have hpd : ((p : Int) == 5) = false := by simp; omega
  have hpd2 : (p == 5) = false := by simpa using hp
  have hpd3 : decide (p = 5) = false := by simpa using hp
  have HD1 := Lib.hid (show T1 ++ pt.dfsL pt.teamS 5 s rs = R by have := HD0.out; rwa [if_neg hp] at this)
  have hp4 : p ≤ 4 := by omega
  clear hp
  go_wp2_with fail
  go_loopw [0, 22] (fun u0 i wr => ∃ (k n1 c1 : Nat) (A1 : Option Addr) (vs1 : List Value) (ts1 : List (List Ps)), k ≤ q ∧ i = .int .i64 k ∧ u0 = .slice A1 n1 c1 ∧ Hid (ts1.length = n1) ∧ Hid (ts1 ++ pt.dfsL pt.teamS 5 s (rs.drop k) = R) ∧ AT wr b0 w (.slice A1 n1 c1) vs1 ts1 (.slice Am p cm) p s) (fun _ i _ => q - (intOf i).toNat)
  case atStart => exact ⟨0, _, _, _, vs1, T1, Nat.zero_le _, rfl, rfl, HM1, Lib.hid (by rw [List.drop_zero]; exact HD1.out), HAX.out⟩
  case round =>
    obtain ⟨k, n1, c2, A2, vs2, ts1, hk, rfl, rfl, HN1, HD, hS⟩ := hrel
    have HS := Lib.hid hS
    clear hS HAX
    have hk0 : 0 ≤ (k : Int) := by omega
    by_cases hlt : k < q
    · have hki : (k : Int) < (q : Int) := by omega
      have hkd : decide (k < q) = true := by simpa using hlt
      obtain ⟨t, htk⟩ := at_lt HQ.out hlt
      have HPO := Lib.hid (HOB.out _ HS.out.2.2.2.2.1)
      obtain ⟨g, o, rfl, hg, h0, h1, h2, h3⟩ := HPO.out.2 k t htk
      have htok := HKR.out t (List.mem_of_getElem? htk)
      have HTO := Lib.hid htok
      have HDR := Lib.hid (show rs.drop k = t :: rs.drop (k + 1) by obtain ⟨hk', e⟩ := List.getElem?_eq_some_iff.1 htk; rw [List.drop_eq_getElem_cons hk', e])
      have HD2 := Lib.hid (show ts1 ++ pt.dfs pt.teamS 5 (s ++ [t]) (rs.drop (k + 1)) ++ pt.dfsL pt.teamS 5 s (rs.drop (k + 1)) = R by rw [← HD.out, HDR.out, pt.dfsL_cons, List.append_assoc])
      clear htok htk
      go_upto_region 8 with fail
      obtain ⟨X, HX⟩ : ∃ X, Hid (wr.heap.size = X) := ⟨_, Lib.hid rfl⟩
      obtain ⟨W1, HW1, HAW, HBX⟩ : ∃ W1, Hid (wr.alloc (.cells #[.int .i64 t.id, .string t.name, .int .i64 t.skills, .int .i64 t.trips] 41) = W1) ∧ Hid (AT W1 b0 w (.slice A2 n1 c2) vs2 ts1 (.slice Am p cm) p s) ∧ Hid (Blk W1 wr.heap.size 41 #[.int .i64 t.id, .string t.name, .int .i64 t.skills, .int .i64 t.trips]) := ⟨_, Lib.hid rfl, Lib.hid (HS.out.alloc _), Lib.hid (Blk.new _ _ _)⟩
      rw [HX.out] at HBX
      rw [HW1.out, HX.out]
      have HSX := Lib.hid (show psg.SX W1 W1.heap.size W1 X t from ⟨HBX.out, Below.refl _ _⟩)
      have hb1 := HAW.out.b0
      have hXlt := HBX.out.lt
      clear h0 h1 h2 h3 HW1
      go_cut [9] (fun v wx => MorePost p s t W1 v wx)
      case first =>
        as_aux_lemma =>
          refine wp_region_held_drew (S := (fun w' => w'.cell? ⟨X, 0, none⟩ = some (.int .i64 t.id) ∧ w'.cell? ⟨X, 1, none⟩ = some (.string t.name) ∧ w'.cell? ⟨X, 2, none⟩ = some (.int .i64 t.skills) ∧ w'.cell? ⟨X, 3, none⟩ = some (.int .i64 t.trips) ∧ psg.SX w' W1.heap.size W1 X t)) (by kernel_rfl) ?_ (fun hHeld => ?_)
          · exact sx_five HSX.out.drew
          refine' wpAnyH_take (i := 0) (v := ?v0) rfl (by kernel_rfl) (by kernel_rfl) (by kernel_rfl) (fun _ _ _ h => h) (Or.inl ⟨by rfl, ?hy0⟩) (by assumption) ?rest0
          case hy0 => (intro w hSw; (try dsimp only at hSw); go_simp; try (with_reducible rfl))
          simp only [Act.put, List.getElem_toArray, List.getElem_cons_succ, List.getElem_cons_zero, List.setIfInBounds_toArray, List.set_cons_zero, List.set_cons_succ]
          refine' wpAnyH_take (i := 2) (v := ?v2) rfl (by kernel_rfl) (by kernel_rfl) (by kernel_rfl) (fun _ _ _ h => h) (Or.inl ⟨by rfl, ?hy2⟩) (by assumption) ?rest2
          case hy2 => (intro w hSw; (try dsimp only at hSw); go_simp; try (with_reducible rfl))
          simp only [Act.put, List.getElem_toArray, List.getElem_cons_succ, List.getElem_cons_zero, List.setIfInBounds_toArray, List.set_cons_zero, List.set_cons_succ]
          refine wpAnyH_ready (rs := [1, 3]) (by kernel_rfl) (by simp) ?_
          refine AllReadyH.cons rfl (fun K hK => ?_) (AllReadyH.cons rfl (fun K hK => ?_) AllReadyH.nil)
          · go_simp
            refine (clone_people b0 p (.slice Am p cm) s _ (by omega) HPL (Lib.hid (row_below HAW.out.2.2.1 hHeld.2.2.2.2.2))).mono ?_
            rintro e w2 ⟨v2, rfl, ho2, b2⟩
            rw [HPL.out] at ho2
            obtain ⟨A4, c4, rfl⟩ := row_slice ho2
            have HO2 := Lib.hid (own_mono ho2 hHeld.2.2.2.2.2.size)
            have HB2 := Lib.hid b2
            refine hK.out _ _ (sx_five (sx_step hHeld.2.2.2.2 (Nat.le_refl _) b2)) (fun hHeld1 => ?_)
            clear hK K hHeld
            have hHeld := hHeld1
            clear hHeld1
            try simp only [Act.put, List.getElem_toArray, List.getElem_cons_succ, List.getElem_cons_zero, List.setIfInBounds_toArray, List.set_cons_zero, List.set_cons_succ]
            refine wpAnyH_ready (rs := [3]) (by kernel_rfl) (by simp) ?_
            refine AllReadyH.cons rfl (fun K hK => ?_) AllReadyH.nil
            go_simp
            refine hK.out _ _ (sx_five (sx_step hHeld.2.2.2.2 (Nat.le_refl _) ((Below.refl _ _).alloc (Nat.le_refl _) _))) (fun hHeld1 => ?_)
            clear hK K hHeld
            have hHeld := hHeld1
            clear hHeld1
            try simp only [Act.put, List.getElem_toArray, List.getElem_cons_succ, List.getElem_cons_zero, List.setIfInBounds_toArray, List.set_cons_zero, List.set_cons_succ]
            refine wpAnyH_ready (rs := [4]) (by kernel_rfl) (by simp) ?_
            refine AllReadyH.cons rfl (fun K hK => ?_) AllReadyH.nil
            refine step_append_lies _ rfl _ _ 24 rfl W1.heap.size 41 j0 _ 4 40 Try.underlying24 kj kz0 kz1 kz2 rfl (by decide) (.slice A4 p c4) p (flatPs s) rfl (HO2.out.alloc _) ⟨w2.heap.size, 0, none⟩ 1 1 [.int .i64 t.id, .string t.name, .int .i64 t.skills, .int .i64 t.trips] rfl rfl (World.news_of_block (alloc_at rfl)) (by simp [Value.oneCell']) (by decide) (by unfold maxLen; omega) (by omega) hHeld.2.2.2.2.2.size _ rfl ?_
            intro g9 c9 w4 ho4 hg4 _ _
            have HO4 := Lib.hid ho4
            refine hK.out _ _ (sx_five (sx_grown hHeld.2.2.2.2 hg4 hHeld.2.2.2.2.2.size (fun j ej => (HO2.out.lt j ej).1) hXlt)) (fun hHeld1 => ?_)
            clear ho4 hg4
            clear hK K hHeld
            have hHeld := hHeld1
            clear hHeld1
            try simp only [Act.put, List.getElem_toArray, List.getElem_cons_succ, List.getElem_cons_zero, List.setIfInBounds_toArray, List.set_cons_zero, List.set_cons_succ]
            refine' wpAnyH_take (i := 5) (v := ?v5a) rfl (by kernel_rfl) (by kernel_rfl) (by kernel_rfl) (fun _ _ _ h => h) (Or.inl ⟨by rfl, ?hy5a⟩) (by assumption) ?rest5a
            case hy5a => (intro w hSw; (try dsimp only at hSw); go_simp; try (with_reducible rfl))
            simp only [Act.put, List.getElem_toArray, List.getElem_cons_succ, List.getElem_cons_zero, List.setIfInBounds_toArray, List.set_cons_zero, List.set_cons_succ]
            refine wpAnyH_done (by kernel_rfl) ?_ _
            have HS4 := Lib.hid hHeld.2.2.2.2.2
            clear hHeld
            go_wp2_with fail
            go_meet
            case rel => exact ⟨some ⟨g9, 0, none⟩, c9, rfl, by rw [flatPs_app]; exact HO4.out, HS4.out⟩
          · go_simp
            refine hK.out _ _ (sx_five (sx_step hHeld.2.2.2.2 (Nat.le_refl _) ((Below.refl _ _).alloc (Nat.le_refl _) _))) (fun hHeld1 => ?_)
            clear hK K hHeld
            have hHeld := hHeld1
            clear hHeld1
            try simp only [Act.put, List.getElem_toArray, List.getElem_cons_succ, List.getElem_cons_zero, List.setIfInBounds_toArray, List.set_cons_zero, List.set_cons_succ]
            refine wpAnyH_ready (rs := [1]) (by kernel_rfl) (by simp) ?_
            refine AllReadyH.cons rfl (fun K hK => ?_) AllReadyH.nil
            go_simp
            refine (clone_people b0 p (.slice Am p cm) s _ (by omega) HPL (Lib.hid (row_below HAW.out.2.2.1 hHeld.2.2.2.2.2))).mono ?_
            rintro e w2 ⟨v2, rfl, ho2, b2⟩
            rw [HPL.out] at ho2
            obtain ⟨A4, c4, rfl⟩ := row_slice ho2
            have HO2 := Lib.hid (own_mono ho2 hHeld.2.2.2.2.2.size)
            have HB2 := Lib.hid b2
            refine hK.out _ _ (sx_five (sx_step hHeld.2.2.2.2 (Nat.le_refl _) b2)) (fun hHeld1 => ?_)
            clear hK K hHeld
            have hHeld := hHeld1
            clear hHeld1
            try simp only [Act.put, List.getElem_toArray, List.getElem_cons_succ, List.getElem_cons_zero, List.setIfInBounds_toArray, List.set_cons_zero, List.set_cons_succ]
            refine wpAnyH_ready (rs := [4]) (by kernel_rfl) (by simp) ?_
            refine AllReadyH.cons rfl (fun K hK => ?_) AllReadyH.nil
            refine step_append_lies _ rfl _ _ 24 rfl W1.heap.size 41 j0 _ 4 40 Try.underlying24 kj kz0 kz1 kz2 rfl (by decide) (.slice A4 p c4) p (flatPs s) rfl HO2.out ⟨W1.heap.size, 0, none⟩ 1 1 [.int .i64 t.id, .string t.name, .int .i64 t.skills, .int .i64 t.trips] rfl rfl (World.news_of_block ((HB2.out.block W1.heap.size (by simp)).trans (alloc_at (by simp)))) (by simp [Value.oneCell']) (by decide) (by unfold maxLen; omega) (by omega) hHeld.2.2.2.2.2.size _ rfl ?_
            intro g9 c9 w4 ho4 hg4 _ _
            have HO4 := Lib.hid ho4
            refine hK.out _ _ (sx_five (sx_grown hHeld.2.2.2.2 hg4 hHeld.2.2.2.2.2.size (fun j ej => (HO2.out.lt j ej).1) hXlt)) (fun hHeld1 => ?_)
            clear ho4 hg4
            clear hK K hHeld
            have hHeld := hHeld1
            clear hHeld1
            try simp only [Act.put, List.getElem_toArray, List.getElem_cons_succ, List.getElem_cons_zero, List.setIfInBounds_toArray, List.set_cons_zero, List.set_cons_succ]
            refine' wpAnyH_take (i := 5) (v := ?v5b) rfl (by kernel_rfl) (by kernel_rfl) (by kernel_rfl) (fun _ _ _ h => h) (Or.inl ⟨by rfl, ?hy5b⟩) (by assumption) ?rest5b
            case hy5b => (intro w hSw; (try dsimp only at hSw); go_simp; try (with_reducible rfl))
            simp only [Act.put, List.getElem_toArray, List.getElem_cons_succ, List.getElem_cons_zero, List.setIfInBounds_toArray, List.set_cons_zero, List.set_cons_succ]
            refine wpAnyH_done (by kernel_rfl) ?_ _
            have HS4 := Lib.hid hHeld.2.2.2.2.2
            clear hHeld
            go_wp2_with fail
            go_meet
            case rel => exact ⟨some ⟨g9, 0, none⟩, c9, rfl, by rw [flatPs_app]; exact HO4.out, HS4.out⟩
      case rest =>
      obtain ⟨A9, c9, rfl, hm9, hb9⟩ := hcut
      have HA9 := Lib.hid (HAW.out.step hb9)
      have HM9 := Lib.hid (own_mono hm9 hb1)
      have HPO9 := Lib.hid (HOB.out _ HA9.out.2.2.2.2.1)
      have HPL9 := Lib.hid (show (s ++ [t]).length = p + 1 by rw [List.length_append, HPL.out]; rfl)
      have HKS9 := Lib.hid (okS_app HKS.out HTO.out)
      have HKR9 := Lib.hid (show pt.okS (rs.drop (k + 1)) from fun u hu => HKR.out u (List.mem_of_mem_drop hu))
      have HATC := Lib.hid (show AT wc b0 wc (.slice A2 ts1.length c2) vs2 ts1 (.slice A9 (p + 1) c9) (p + 1) (s ++ [t]) from ⟨by rw [HN1.out]; have := HA9.out.1; rwa [HN1.out] at this, HA9.out.2.1, HM9.out, Keeps.refl _ _, Below.refl _ _, HA9.out.b0⟩)
      have hk1 : IntKind.i64.wrap ((k : Int) + 1) = (k : Int) + 1 := IntWalk.i64_in _ (by omega)
      obtain ⟨R1, HR1⟩ : ∃ R1, Hid (ts1 ++ pt.dfs pt.teamS 5 (s ++ [t]) (rs.drop (k + 1)) = R1) := ⟨_, Lib.hid rfl⟩
      have HD3 := Lib.hid (show R1 ++ pt.dfsL pt.teamS 5 s (rs.drop (k + 1)) = R by rw [← HR1.out]; exact HD2.out)
      have hR1 : R1.length ≤ 100000 := by have e := congrArg List.length HD3.out; rw [List.length_append] at e; omega
      by_cases hc : co = k + 1
      · have HNL := Lib.hid (show rs.drop (k + 1) = [] from List.drop_eq_nil_of_le (by rw [HQ.out]; omega))
        have HPD := Lib.hid (show PsO wc b0 (some ⟨g, o, none⟩) (q - (k + 1)) (rs.drop (k + 1)) by rw [HNL.out, show q - (k + 1) = 0 by omega]; exact PsO.nil)
        have hcT : (co = k + 1) = True := by simp [hc]
        have HLD := Lib.hid (show (rs.drop (k + 1)).length = q - (k + 1) by rw [List.length_drop, HQ.out])
        have hcall := IH.out (q - (k + 1)) (by omega) (rs.drop (k + 1)) (s ++ [t]) ts1 R1 vs2 A2 c2 A9 c9 (p + 1) (some ⟨g, o, none⟩) (co - (k + 1)) b0 wc HLD (by omega) (by omega) HPL9 (by omega) HKS9 HKR9 HR1 hR1 HATC HPD
        rw [HN1.out] at hcall
        have HC := Lib.hid hcall
        clear hcall hc
        go_wp2_with fail
        refine HC.out.mono ?_
        rintro e w5 ⟨v5, vs5, rfl, ho5, ht5, hk5, hb5⟩
        obtain ⟨A5, c5, rfl⟩ := row_slice ho5
        obtain ⟨n5, HN5⟩ : ∃ n5, Hid (R1.length = n5) := ⟨_, Lib.hid rfl⟩
        have HA5 := Lib.hid (HA9.out.call ho5 ht5 hk5 hb5)
        rw [HN5.out] at HA5 ⊢
        clear ho5 ht5 hk5 hb5
        go_wp2_with fail
        go_roundw
        case rel => exact ⟨k + 1, n5, c5, A5, vs5, R1, by omega, by go_num, rfl, HN5, HD3, HA5.out⟩
        case measure => simp [intOf]; omega
      · have HPD := Lib.hid (HPO9.out.drop (k + 1))
        have HLD := Lib.hid (show (rs.drop (k + 1)).length = q - (k + 1) by rw [List.length_drop, HQ.out])
        have hcall := IH.out (q - (k + 1)) (by omega) (rs.drop (k + 1)) (s ++ [t]) ts1 R1 vs2 A2 c2 A9 c9 (p + 1) (some ⟨g, o + (k + 1) * 4, none⟩) (co - (k + 1)) b0 wc HLD (by omega) (by omega) HPL9 (by omega) HKS9 HKR9 HR1 hR1 HATC HPD
        rw [HN1.out] at hcall
        have HC := Lib.hid hcall
        clear hcall
        go_wp2_with fail
        refine HC.out.mono ?_
        rintro e w5 ⟨v5, vs5, rfl, ho5, ht5, hk5, hb5⟩
        obtain ⟨A5, c5, rfl⟩ := row_slice ho5
        obtain ⟨n5, HN5⟩ : ∃ n5, Hid (R1.length = n5) := ⟨_, Lib.hid rfl⟩
        have HA5 := Lib.hid (HA9.out.call ho5 ht5 hk5 hb5)
        rw [HN5.out] at HA5 ⊢
        clear ho5 ht5 hk5 hb5
        go_wp2_with fail
        go_roundw
        case rel => exact ⟨k + 1, n5, c5, A5, vs5, R1, by omega, by go_num, rfl, HN5, HD3, HA5.out⟩
        case measure => simp [intOf]; omega
    · have hkd : decide (k < q) = false := by simpa using hlt
      have HF := Lib.hid (show ts1 = R by have := HD.out; rwa [List.drop_of_length_le (by rw [HQ.out]; omega), pt.dfsL, List.append_nil] at this)
      clear hlt
      go_wp2_with fail
      go_ret
      exact ⟨.slice A2 n1 c2, vs2, rfl, by rw [← HF.out]; exact HS.out.1, by rw [← HF.out]; exact HS.out.2.1, HS.out.2.2.2.1, HS.out.2.2.2.2.1⟩
end Go.Proofs.Ytidofckanadkpaa.pi5

namespace Go.Proofs.Ytidofckanadkpaa.pi5
open Go.RowKit
open reads base inn ty rowi psk psl psm psn pso psp pq tab
set_option linter.unusedVariables false
set_option linter.unusedSimpArgs false
set_option maxRecDepth 100000

/-- lists of people that the call has made -/
def TAPost (L : List (List Ps)) (w : World) (e : Ending) (w' : World) : Prop :=
  ∃ v vs, e = .returned v ∧ w'.ownsRow w.heap.size 24 1 v L.length vs ∧ TabV 41 4 flatPs w' w.heap.size vs L ∧ Below w.heap.size w w'
theorem teams_le {ts : List Ps} (h : ts.length ≤ 10) : (pt.teams ts).length ≤ 1024 := by
  rw [← pt.count_teams]
  exact Nat.le_trans (cnt_le _ _) (pow_le h).2
set_option maxHeartbeats 4000000 in
theorem teamsAmong_is (A : Option Addr) (n cap : Nat) (ts : List Ps) (L : List (List Ps)) (w : World) (hn : n ≤ 10) (hc : n ≤ cap) (hk : Hid (pt.okS ts)) (hts : Hid (PsAt w w.heap.size A n ts)) (hL : Hid (pt.teams ts = L)) :
    Calls Try.prog 56 #[.slice A n cap] w (TAPost L w) := by
  have HN : Hid (ts.length = n) := Lib.hid hts.out.1
  have HLE := Lib.hid (show L.length ≤ 100000 by rw [← hL.out]; have := teams_le (ts := ts) (by rw [HN.out]; exact hn); omega)
  obtain ⟨H, HH⟩ : ∃ H, Hid (w.heap.size = H) := ⟨_, Lib.hid rfl⟩
  obtain ⟨W2, HW2, HB2, HR1, HR2⟩ : ∃ W2, Hid ((w.alloc (.cells #[] 24)).alloc (.cells #[] 41) = W2) ∧ Hid (Below w.heap.size w W2) ∧ Hid (W2.ownsRow w.heap.size 24 1 (.slice (some ⟨w.heap.size, 0, none⟩) 0 0) 0 []) ∧ Hid (W2.ownsRow w.heap.size 41 4 (.slice (some ⟨w.heap.size + 1, 0, none⟩) 0 0) 0 []) := by
    refine ⟨_, Lib.hid rfl, Lib.hid (((Below.refl _ _).alloc (Nat.le_refl _) _).alloc (by simp) _), Lib.hid ?_, Lib.hid ?_⟩
    · exact World.ownsRow.alloc (World.ownsRow_made w #[] 0 (Nat.le_refl _) (by decide) (by simp)) _
    · have := World.ownsRow_made (base := w.heap.size) (size := 4) (e := 41) (w.alloc (.cells #[] 24)) #[] 0 (by simp) (by decide) (by simp)
      simpa using this
  have HA := Lib.hid (show AT W2 w.heap.size W2 (.slice (some ⟨w.heap.size, 0, none⟩) ([] : List (List Ps)).length 0) [] [] (.slice (some ⟨w.heap.size + 1, 0, none⟩) 0 0) 0 [] from ⟨HR1.out, TabV.nil, HR2.out, Keeps.refl _ _, Below.refl _ _, HB2.out.size⟩)
  have HO := Lib.hid (show PsO W2 w.heap.size A n ts from (PsO.of_at hts.out).below HB2.out)
  have hcall := app_any n ts [] [] L [] (some ⟨w.heap.size, 0, none⟩) 0 (some ⟨w.heap.size + 1, 0, none⟩) 0 0 A cap w.heap.size W2 HN hn hc (Lib.hid rfl) (by omega) (Lib.hid (fun u hu => by simp at hu)) hk (Lib.hid (by rw [List.nil_append, pt.dfs_is]; exact hL.out)) HLE.out HA HO
  have HC := Lib.hid hcall
  clear hcall
  go_enter Try.func56, Try.ntmps56
  go_wp2_with fail
  rw [HW2.out]
  refine HC.out.mono ?_
  rintro e w5 ⟨v5, vs5, rfl, ho5, ht5, hk5, hb5⟩
  have HO5 := Lib.hid ho5
  have HT5 := Lib.hid ht5
  have HB5 := Lib.hid (HB2.out.trans hb5)
  clear ho5 ht5 hk5 hb5
  go_wp2_with fail
  go_ret
  exact ⟨v5, vs5, rfl, HO5.out, HT5.out, HB5.out⟩
/-- an element of a list of lists -/
theorem tab_at {w : World} {b n k : Nat} {A : Option Addr} {c : Nat} {vs : List Value} {L : List (List Ps)} {s : List Ps} (hl : L.length = n) (ho : w.ownsRow b 24 1 (.slice A n c) n vs) (ht : TabV 41 4 flatPs w b vs L) (hs : L[k]? = some s) :
    ∃ g A1 m1 c1, A = some ⟨g, 0, none⟩ ∧ g < w.heap.size ∧ w.cell? ⟨g, k, none⟩ = some (.slice A1 m1 c1) ∧ s.length = m1 ∧ w.ownsRow b 41 4 (.slice A1 m1 c1) m1 (flatPs s) := by
  have hk : k < n := by rw [← hl]; exact (List.getElem?_eq_some_iff.1 hs).1
  obtain ⟨g, cap, hv, -, hg⟩ := ho.form (by omega)
  injection hv with hA _ hc
  subst hA hc
  obtain ⟨v, hv, hov⟩ := ht.at_ hs
  obtain ⟨A1, c1, rfl⟩ := row_slice hov
  exact ⟨g, A1, s.length, c1, rfl, hg, by rw [ho.cellAt k (by omega)]; exact hv, rfl, hov⟩
theorem team_mem {ts s : List Ps} {k : Nat} {L : List (List Ps)} (hL : pt.teams ts = L) (hs : L[k]? = some s) : (∀ x ∈ s, x ∈ ts) ∧ pt.teamS s = true := by
  have := pt.mem_teams.1 (show s ∈ pt.teams ts by rw [hL]; exact List.mem_of_getElem? hs)
  exact ⟨fun x hx => this.1.subset hx, this.2⟩
set_option maxHeartbeats 8000000 in
theorem countTeams_is (A : Option Addr) (n cap : Nat) (ts : List Ps) (v : Value) (w : World) (hv : Hid (ansCt ts = v)) (hn : n ≤ 2000000) (hc : n ≤ cap) (hs : Hid (∀ t ∈ ts, t.name.size ≤ 1048576)) (hts : Hid (PsAt w w.heap.size A n ts)) :
    Calls Try.prog 36 #[.slice A n cap] w (APost v w) := by
  have hL : Hid (ts.length = n) := Lib.hid hts.out.1
  cases hg : psg.good ts
  · have HG := Lib.hid hg
    have HF := Lib.hid (show v = .tuple #[.int .i64 0, .int .i64 0, .bool false] by rw [← hv.out]; unfold ansCt; rw [hg]; rfl)
    clear hg
    go_enter Try.func36, Try.ntmps36
    go_wp2_with fail
    refine (people_is A n cap ts false _ hn hs hts HG).mono ?_
    rintro e w1 ⟨rfl, b1⟩
    have HB := Lib.hid b1
    clear b1
    go_wp2_with fail
    exact bodyPost_ret (v := .tuple #[.int .i64 0, .int .i64 0, .bool false]) (by simp [results, Try.results36, go_sem]) rfl ⟨by rw [HF.out], HB.out⟩
  have HG := Lib.hid hg
  have hn10 : n ≤ 10 := by rw [← hL.out]; exact good_len hg
  have HOK := Lib.hid (good_okS hg)
  have HTR := Lib.hid (show ∀ t ∈ ts, 0 ≤ t.trips ∧ t.trips ≤ 500 from fun t ht => (good_bd hg t ht).2)
  obtain ⟨L, HL⟩ : ∃ L, Hid (pt.teams ts = L) := ⟨_, Lib.hid rfl⟩
  obtain ⟨N, HN⟩ : ∃ N, Hid (L.length = N) := ⟨_, Lib.hid rfl⟩
  have hN : N ≤ 1024 := by rw [← HN.out, ← HL.out]; exact teams_le (by rw [hL.out]; exact hn10)
  obtain ⟨d, HD⟩ : ∃ d, Hid (L.countP (fun s => decide (20 ≤ pt.trS s)) = d) := ⟨_, Lib.hid rfl⟩
  have HF := Lib.hid (show v = .tuple #[.int .i64 (N : Nat), .int .i64 (d : Nat), .bool true] by rw [← hv.out]; unfold ansCt; rw [hg, if_pos rfl, HL.out, HN.out, HD.out])
  clear hg
  go_enter Try.func36, Try.ntmps36
  go_wp2_with fail
  refine (people_is A n cap ts true _ hn hs hts HG).mono ?_
  rintro e w1 ⟨rfl, b1⟩
  have HB := Lib.hid b1
  have HT1 := Lib.hid (hts.out.step b1)
  clear b1
  go_wp2_with fail
  refine (teamsAmong_is A n cap ts L _ hn10 hc HOK HT1 HL).mono ?_
  rintro e w2 ⟨v2, vs, rfl, ho2, ht2, b2⟩
  rw [HN.out] at ho2
  obtain ⟨A2, c2, rfl⟩ := row_slice ho2
  have HB2 := Lib.hid (HB.out.trans (b2.mono HB.out.size))
  have HO2 := Lib.hid (own_mono ho2 HB.out.size)
  have HTT := Lib.hid (ht2.mono HB.out.size)
  clear ho2 ht2 b2
  go_wp2_with fail
  go_loopw [6, 16] (fun a i wr => ∃ (k c : Nat), k ≤ N ∧ i = .int .i64 k ∧ a = .int .i64 c ∧ c ≤ k ∧ Hid ((L.take k).countP (fun s => decide (20 ≤ pt.trS s)) = c) ∧ Hid (wr.ownsRow w.heap.size 24 1 (.slice A2 N c2) N vs) ∧ Hid (TabV 41 4 flatPs wr w.heap.size vs L) ∧ Below w.heap.size w wr) (fun _ i _ => N - (intOf i).toNat)
  case atStart => exact ⟨0, 0, Nat.zero_le _, rfl, rfl, Nat.le_refl _, Lib.hid (by simp), HO2, HTT, HB2.out⟩
  case round =>
    obtain ⟨k, c, hk, rfl, rfl, hck, HC, HO, HTB, hB⟩ := hrel
    have HBr := Lib.hid hB
    have hBs := hB.size
    clear hB
    have hk0 : 0 ≤ (k : Int) := by omega
    by_cases hlt : k < N
    · have hki : (k : Int) < (N : Int) := by omega
      have hkd : decide (k < N) = true := by simpa using hlt
      obtain ⟨s, hsk⟩ := at_lt HN.out hlt
      obtain ⟨g, A3, m3, c3, rfl, hg, cg, hm3, ho3⟩ := tab_at HN.out HO.out HTB.out hsk
      have HPS := Lib.hid (own_Ps hm3 ho3)
      have HMM := (team_mem HL.out hsk).1
      have hm5 : m3 ≤ 5 := by rw [← hm3]; exact (pt.teamS_len (team_mem HL.out hsk).2).2
      have HTS := Lib.hid (show ∀ t ∈ s, 0 ≤ t.trips ∧ t.trips ≤ 500 from fun t ht => HTR.out t (HMM t ht))
      have HCN := Lib.hid (cnt_snoc (fun s => decide (20 ≤ pt.trS s)) hsk)
      obtain ⟨r, HR⟩ : ∃ r, Hid (decide (20 ≤ pt.trS s) = r) := ⟨_, Lib.hid rfl⟩
      clear HMM hsk hm3 ho3
      go_wp2_with fail
      refine (areExperienced_is A3 m3 c3 s r _ (by omega) HTS HPS HR).mono ?_
      rintro e w3 ⟨rfl, b3⟩
      have HB3 := Lib.hid (HBr.out.trans (b3.mono hBs))
      have HO3 := Lib.hid (row_below HO.out b3)
      have HT3 := Lib.hid (HTB.out.below b3)
      clear b3 cg
      cases r
      · have HC2 := Lib.hid (show (L.take (k + 1)).countP (fun s => decide (20 ≤ pt.trS s)) = c by rw [HCN.out, HC.out, HR.out]; rfl)
        go_wp2_with fail
        go_roundw
        case rel => exact ⟨k + 1, c, by omega, by go_num, rfl, by omega, HC2, HO3, HT3, HB3.out⟩
        case measure => simp [intOf]; omega
      · have HC2 := Lib.hid (show (L.take (k + 1)).countP (fun s => decide (20 ≤ pt.trS s)) = c + 1 by rw [HCN.out, HC.out, HR.out]; rfl)
        go_wp2_with fail
        go_roundw
        case rel => exact ⟨k + 1, c + 1, by omega, by go_num, by go_num, by omega, HC2, HO3, HT3, HB3.out⟩
        case measure => simp [intOf]; omega
    · have hkd : decide (k < N) = false := by simpa using hlt
      obtain rfl : c = d := by rw [← HC.out, List.take_of_length_le (by rw [HN.out]; omega)]; exact HD.out
      clear hlt
      go_wp2_with fail
      exact bodyPost_ret (v := .tuple #[.int .i64 (N : Nat), .int .i64 (c : Nat), .bool true]) (by simp [results, Try.results36, go_sem]) rfl ⟨by rw [HF.out], HBr.out⟩
end Go.Proofs.Ytidofckanadkpaa.pi5

namespace Go.Proofs.Ytidofckanadkpaa.pi5
open Go.RowKit
open reads base inn ty rowi psk psl psm psn pso psp pq tab
set_option linter.unusedVariables false
set_option linter.unusedSimpArgs false
set_option maxRecDepth 100000

/-- the best ones so far, and whether there are any -/
def bestS (o : Option (List Ps)) : List Ps := o.getD []
theorem spN_at' {c : List Ps → Bool} {L : List (List Ps)} {k : Nat} {s : List Ps} (h : L[k]? = some s) : pt.spN c L (k + 1) = match pt.spN c L k with
      | some b => if b.length ≤ s.length then some b else if c s then some s else some b
      | none => if c s then some s else none := pt.spN_at h
theorem smIds_is {ts : List Ps} {q : Int} (hg : psg.good ts = true) (hq : btw 0 q 15 = true) : smIds ts q = pt.ids (bestS (pt.spN (cS q) (pt.teams ts) (pt.teams ts).length)) ∧ decide (0 < (smIds ts q).length) = (pt.spN (cS q) (pt.teams ts) (pt.teams ts).length).isSome := by
  have e := pt.small_is (good_asc hg) (cS q)
  have e1 : smIds ts q = ((pt.spN (cS q) (pt.teams ts) (pt.teams ts).length).map pt.ids).getD [] := by
    unfold smIds smOk; rw [hg, hq]
    show smB ts q (2 ^ ts.length) = _
    rw [← e]; rfl
  cases h : pt.spN (cS q) (pt.teams ts) (pt.teams ts).length with
  | none => rw [h] at e1; rw [e1]; exact ⟨rfl, rfl⟩
  | some b =>
    rw [h] at e1
    have hm := (pt.mem_teams.1 (pt.spN_some (pt.teams_asc (good_asc hg)) h).1).2
    have := pt.teamS_len hm
    rw [e1]
    refine ⟨rfl, ?_⟩
    simp [pt.ids_len]; omega
/-- without any there is no best one -/
def FN (f : Bool) (bs : List Ps) : Prop := f = false → bs = []
set_option maxHeartbeats 16000000 in
theorem smallest_is (A : Option Addr) (n cap : Nat) (ts : List Ps) (q : Int) (I : List Int) (b : Bool) (w : World) (hI : Hid (smIds ts q = I)) (hb : Hid (decide (0 < I.length) = b)) (hn : n ≤ 2000000) (hc : n ≤ cap) (hs : Hid (∀ t ∈ ts, t.name.size ≤ 1048576)) (hts : Hid (PsAt w w.heap.size A n ts)) :
    Calls Try.prog 16 #[.slice A n cap, .int .i64 q] w (LPost I b w) := by
  have hL : Hid (ts.length = n) := Lib.hid hts.out.1
  cases hg : psg.good ts
  · have HG := Lib.hid hg
    obtain rfl : I = [] := by rw [← hI.out]; unfold smIds smOk; rw [hg]; rfl
    obtain rfl : b = false := by rw [← hb.out]; rfl
    clear hg
    go_enter Try.func16, Try.ntmps16
    go_wp2_with fail
    refine (people_is A n cap ts false _ hn hs hts HG).mono ?_
    rintro e w1 ⟨rfl, b1⟩
    have HB := Lib.hid b1
    have hBs := b1.size
    clear b1
    have HR := Lib.hid (show (w1.alloc (.cells #[] 3)).ownsRow w.heap.size 3 1 (.slice (some ⟨w1.heap.size, 0, none⟩) 0 0) 0 [] from World.ownsRow_made w1 #[] 0 hBs (by decide) (by simp))
    go_wp2_with fail
    go_ret2
    exact ⟨.slice (some ⟨w1.heap.size, 0, none⟩) 0 0, rfl, HR.out, HB.out.alloc hBs _⟩
  cases hq : btw 0 q 15
  · have HG := Lib.hid hg
    have HQ := Lib.hid hq
    obtain rfl : I = [] := by rw [← hI.out]; unfold smIds smOk; rw [hg, hq]; rfl
    obtain rfl : b = false := by rw [← hb.out]; rfl
    clear hg hq
    go_enter Try.func16, Try.ntmps16
    go_wp2_with fail
    refine (people_is A n cap ts true _ hn hs hts HG).mono ?_
    rintro e w1 ⟨rfl, b1⟩
    have HB := Lib.hid b1
    clear b1
    go_wp2_with fail
    refine (areSkills_is q false HQ _).mono ?_
    rintro e w2 ⟨rfl, b2⟩
    have HB2 := Lib.hid (HB.out.trans (b2.mono HB.out.size))
    have hBs := HB2.out.size
    clear b2
    have HR := Lib.hid (show (w2.alloc (.cells #[] 3)).ownsRow w.heap.size 3 1 (.slice (some ⟨w2.heap.size, 0, none⟩) 0 0) 0 [] from World.ownsRow_made w2 #[] 0 hBs (by decide) (by simp))
    go_wp2_with fail
    go_ret2
    exact ⟨.slice (some ⟨w2.heap.size, 0, none⟩) 0 0, rfl, HR.out, HB2.out.alloc hBs _⟩
  have HG := Lib.hid hg
  have HQ := Lib.hid hq
  have hqb := btw_yes hq
  have hn10 : n ≤ 10 := by rw [← hL.out]; exact good_len hg
  have HOK := Lib.hid (good_okS hg)
  have HTR := Lib.hid (show ∀ t ∈ ts, 0 ≤ t.trips ∧ t.trips ≤ 500 from fun t ht => (good_bd hg t ht).2)
  obtain ⟨L, HL⟩ : ∃ L, Hid (pt.teams ts = L) := ⟨_, Lib.hid rfl⟩
  obtain ⟨N, HN⟩ : ∃ N, Hid (L.length = N) := ⟨_, Lib.hid rfl⟩
  have hN : N ≤ 1024 := by rw [← HN.out, ← HL.out]; exact teams_le (by rw [hL.out]; exact hn10)
  have HSM := Lib.hid (smIds_is hg hq)
  rw [HL.out, HN.out, hI.out] at HSM
  clear hg hq
  go_enter Try.func16, Try.ntmps16
  go_wp2_with fail
  refine (people_is A n cap ts true _ hn hs hts HG).mono ?_
  rintro e w1 ⟨rfl, b1⟩
  have HB := Lib.hid b1
  clear b1
  go_wp2_with fail
  refine (areSkills_is q true HQ _).mono ?_
  rintro e w2 ⟨rfl, b2⟩
  have HB2 := Lib.hid (HB.out.trans (b2.mono HB.out.size))
  have hBs := HB2.out.size
  have HR := Lib.hid (show (w2.alloc (.cells #[] 41)).ownsRow w.heap.size 41 4 (.slice (some ⟨w2.heap.size, 0, none⟩) 0 0) 0 [] from World.ownsRow_made w2 #[] 0 hBs (by decide) (by simp))
  have HE := Lib.hid (HB2.out.alloc hBs (.cells #[] 41))
  have HT1 := Lib.hid (hts.out.step HE.out)
  clear b2 hBs
  go_wp2_with fail
  refine (teamsAmong_is A n cap ts L _ hn10 hc HOK HT1 HL).mono ?_
  rintro e w3 ⟨v2, vs, rfl, ho2, ht2, b3⟩
  rw [HN.out] at ho2
  obtain ⟨A2, c2, rfl⟩ := row_slice ho2
  have HB3 := Lib.hid (HE.out.trans (b3.mono HE.out.size))
  have HO2 := Lib.hid (own_mono ho2 HE.out.size)
  have HTT := Lib.hid (ht2.mono HE.out.size)
  have HR3 := Lib.hid (row_below HR.out b3)
  clear ho2 ht2 b3
  go_wp2_with fail
  go_loopw [6, 7, 23] (fun u6 u7 i wr => ∃ (k m6 c6 : Nat) (A6 : Option Addr) (bs : List Ps) (f : Bool), k ≤ N ∧ m6 ≤ 5 ∧ i = .int .i64 k ∧ u6 = .slice A6 m6 c6 ∧ u7 = .bool f ∧ Hid (bs.length = m6) ∧ Hid (pt.spN (cS q) L k = if f then some bs else none) ∧ Hid (FN f bs) ∧ Hid (wr.ownsRow w.heap.size 41 4 (.slice A6 m6 c6) m6 (flatPs bs)) ∧ Hid (wr.ownsRow w.heap.size 24 1 (.slice A2 N c2) N vs) ∧ Hid (TabV 41 4 flatPs wr w.heap.size vs L) ∧ Below w.heap.size w wr) (fun _ _ i _ => N - (intOf i).toNat)
  case atStart => exact ⟨0, 0, 0, _, [], false, Nat.zero_le _, by omega, rfl, rfl, rfl, Lib.hid rfl, Lib.hid rfl, Lib.hid (fun _ => rfl), HR3, HO2, HTT, HB3.out⟩
  case round =>
    obtain ⟨k, m6, c6, A6, bs, f, hk, hm6, rfl, rfl, rfl, HBL, HSP, HFN, HO6, HO, HTB, hB⟩ := hrel
    have HBr := Lib.hid hB
    have hBs := hB.size
    clear hB HR3 HO2 HTT HB3
    have hk0 : 0 ≤ (k : Int) := by omega
    by_cases hlt : k < N
    · have hki : (k : Int) < (N : Int) := by omega
      have hkd : decide (k < N) = true := by simpa using hlt
      obtain ⟨s, hsk⟩ := at_lt HN.out hlt
      obtain ⟨g, A3, m3, c3, rfl, hg, cg, hm3, ho3⟩ := tab_at HN.out HO.out HTB.out hsk
      have HPS := Lib.hid (own_Ps hm3 ho3)
      have HM3 := Lib.hid hm3
      have HOS := Lib.hid ho3
      have HMM := (team_mem HL.out hsk).1
      have hm5 : m3 ≤ 5 := by rw [← hm3]; exact (pt.teamS_len (team_mem HL.out hsk).2).2
      have HTS := Lib.hid (show ∀ t ∈ s, 0 ≤ t.trips ∧ t.trips ≤ 500 from fun t ht => HTR.out t (HMM t ht))
      have HKS := Lib.hid (show pt.okS s from fun t ht => HOK.out t (HMM t ht))
      have HNX := Lib.hid (spN_at' (c := cS q) hsk)
      obtain ⟨r, HRE⟩ : ∃ r, Hid (decide (20 ≤ pt.trS s) = r) := ⟨_, Lib.hid rfl⟩
      obtain ⟨sk, HSK⟩ : ∃ z, Hid (pt.orS s = z) := ⟨_, Lib.hid rfl⟩
      have hskb : 0 ≤ sk ∧ sk ≤ 15 := by rw [← HSK.out]; exact pt.orS_bd HKS.out
      obtain ⟨r2, HRS⟩ : ∃ r, Hid (hasS sk q = r) := ⟨_, Lib.hid rfl⟩
      have HCS := Lib.hid (show cS q s = (r && r2) by unfold cS; rw [HSK.out, HRE.out, ← HRS.out, Bool.and_comm]; rfl)
      clear HMM hsk hm3 ho3
      by_cases hlong : f = true ∧ m6 ≤ m3
      · obtain ⟨rfl, h63⟩ := hlong
        have hd : decide (m6 ≤ m3) = true := by simpa using h63
        have hd' : decide ((m6 : Int) ≤ (m3 : Int)) = true := by simpa using h63
        have HN2 := Lib.hid (show pt.spN (cS q) L (k + 1) = if true then some bs else none by rw [HNX.out, HSP.out]; simp only [if_true]; rw [if_pos (by rw [HBL.out, HM3.out]; exact h63)])
        go_wp2_with fail
        go_roundw
        case rel => exact ⟨k + 1, m6, c6, A6, bs, true, by omega, hm6, by go_num, rfl, rfl, HBL, HN2, HFN, HO6, HO, HTB, HBr.out⟩
        case measure => simp [intOf]; omega
      · have HN3 := Lib.hid (show pt.spN (cS q) L (k + 1) = if (r && r2) then some s else if f then some bs else none by
          rw [HNX.out, HSP.out, HCS.out]
          cases f
          · simp
          · simp only [if_true]; rw [if_neg (by rw [HBL.out, HM3.out]; intro h; exact hlong ⟨rfl, h⟩)])
        have hcont : f = false ∨ (f = true ∧ m3 < m6) := by
          cases f
          · exact .inl rfl
          · exact .inr ⟨rfl, by
              rcases Nat.lt_or_ge m3 m6 with h | h
              · exact h
              · exact absurd ⟨rfl, h⟩ hlong⟩
        clear hlong
        obtain ⟨hd1, hd2⟩ : (f = true → decide (m6 ≤ m3) = false) ∧ (f = true → decide ((m6 : Int) ≤ (m3 : Int)) = false) := by
          rcases hcont with h | ⟨-, h⟩
          · exact ⟨(fun e => by rw [h] at e; cases e), (fun e => by rw [h] at e; cases e)⟩
          · exact ⟨fun _ => by simp; omega, fun _ => by simp; omega⟩
        have HD1 := Lib.hid hd1
        have HD2 := Lib.hid hd2
        clear hcont hd1 hd2
        cases f
        · go_wp2_with fail
          refine (areExperienced_is A3 m3 c3 s r _ (by omega) HTS HPS HRE).mono ?_
          rintro e w4 ⟨rfl, b4⟩
          have HB4 := Lib.hid (HBr.out.trans (b4.mono hBs))
          have HO4 := Lib.hid (row_below HO.out b4)
          have HT4 := Lib.hid (HTB.out.below b4)
          have HS4 := Lib.hid (row_below HOS.out b4)
          have H64 := Lib.hid (row_below HO6.out b4)
          have HP4 := Lib.hid (HPS.out.step b4)
          clear b4 cg
          cases r
          · have HN4 := Lib.hid (show pt.spN (cS q) L (k + 1) = if false then some bs else none from HN3.out)
            go_wp2_with fail
            go_roundw
            case rel => exact ⟨k + 1, m6, c6, A6, bs, false, by omega, hm6, by go_num, rfl, rfl, HBL, HN4, HFN, H64, HO4, HT4, HB4.out⟩
            case measure => simp [intOf]; omega
          go_wp2_with fail
          refine (skillsTogether_is A3 m3 c3 s sk _ (by omega) HKS HP4 HSK).mono ?_
          rintro e w5 ⟨rfl, b5⟩
          have HB5 := Lib.hid (HB4.out.trans (b5.mono HB4.out.size))
          have HO5 := Lib.hid (row_below HO4.out b5)
          have HT5 := Lib.hid (HT4.out.below b5)
          have HS5 := Lib.hid (row_below HS4.out b5)
          have H65 := Lib.hid (row_below H64.out b5)
          clear b5
          go_wp2_with fail
          refine (hasSkills_is sk q r2 HRS hskb hqb _).mono ?_
          rintro e w6 ⟨rfl, rfl⟩
          cases r2
          · have HN4 := Lib.hid (show pt.spN (cS q) L (k + 1) = if false then some bs else none from HN3.out)
            go_wp2_with fail
            go_roundw
            case rel => exact ⟨k + 1, m6, c6, A6, bs, false, by omega, hm6, by go_num, rfl, rfl, HBL, HN4, HFN, H65, HO5, HT5, HB5.out⟩
            case measure => simp [intOf]; omega
          · have HN4 := Lib.hid (show pt.spN (cS q) L (k + 1) = if true then some s else none from HN3.out)
            go_wp2_with fail
            go_roundw
            case rel => exact ⟨k + 1, m3, c3, A3, s, true, by omega, hm5, by go_num, rfl, rfl, HM3, HN4, Lib.hid (fun e => by cases e), HS5, HO5, HT5, HB5.out⟩
            case measure => simp [intOf]; omega
        · have d1 := HD1.out rfl
          have d2 := HD2.out rfl
          go_wp2_with fail
          refine (areExperienced_is A3 m3 c3 s r _ (by omega) HTS HPS HRE).mono ?_
          rintro e w4 ⟨rfl, b4⟩
          have HB4 := Lib.hid (HBr.out.trans (b4.mono hBs))
          have HO4 := Lib.hid (row_below HO.out b4)
          have HT4 := Lib.hid (HTB.out.below b4)
          have HS4 := Lib.hid (row_below HOS.out b4)
          have H64 := Lib.hid (row_below HO6.out b4)
          have HP4 := Lib.hid (HPS.out.step b4)
          clear b4 cg
          cases r
          · have HN4 := Lib.hid (show pt.spN (cS q) L (k + 1) = if true then some bs else none from HN3.out)
            go_wp2_with fail
            go_roundw
            case rel => exact ⟨k + 1, m6, c6, A6, bs, true, by omega, hm6, by go_num, rfl, rfl, HBL, HN4, HFN, H64, HO4, HT4, HB4.out⟩
            case measure => simp [intOf]; omega
          go_wp2_with fail
          refine (skillsTogether_is A3 m3 c3 s sk _ (by omega) HKS HP4 HSK).mono ?_
          rintro e w5 ⟨rfl, b5⟩
          have HB5 := Lib.hid (HB4.out.trans (b5.mono HB4.out.size))
          have HO5 := Lib.hid (row_below HO4.out b5)
          have HT5 := Lib.hid (HT4.out.below b5)
          have HS5 := Lib.hid (row_below HS4.out b5)
          have H65 := Lib.hid (row_below H64.out b5)
          clear b5
          go_wp2_with fail
          refine (hasSkills_is sk q r2 HRS hskb hqb _).mono ?_
          rintro e w6 ⟨rfl, rfl⟩
          cases r2
          · have HN4 := Lib.hid (show pt.spN (cS q) L (k + 1) = if true then some bs else none from HN3.out)
            go_wp2_with fail
            go_roundw
            case rel => exact ⟨k + 1, m6, c6, A6, bs, true, by omega, hm6, by go_num, rfl, rfl, HBL, HN4, HFN, H65, HO5, HT5, HB5.out⟩
            case measure => simp [intOf]; omega
          · have HN4 := Lib.hid (show pt.spN (cS q) L (k + 1) = if true then some s else none from HN3.out)
            go_wp2_with fail
            go_roundw
            case rel => exact ⟨k + 1, m3, c3, A3, s, true, by omega, hm5, by go_num, rfl, rfl, HM3, HN4, Lib.hid (fun e => by cases e), HS5, HO5, HT5, HB5.out⟩
            case measure => simp [intOf]; omega
    · have hkd : decide (k < N) = false := by simpa using hlt
      have HF1 := Lib.hid (show I = pt.ids bs by
        rw [HSM.out.1, show N = k by omega, HSP.out]
        cases b' : f
        · rw [HFN.out b']; rfl
        · rfl)
      obtain rfl : b = f := by
        rw [← hb.out, HSM.out.2, show N = k by omega, HSP.out]
        cases f <;> rfl
      have HPB := Lib.hid (own_Ps HBL.out HO6.out)
      clear hlt
      go_wp2_with fail
      refine (idsOf_is A6 m6 c6 bs _ (by omega) HPB).mono ?_
      rintro e w4 ⟨v4, rfl, ho4, b4⟩
      have HB4 := Lib.hid (HBr.out.trans (b4.mono hBs))
      have HO4 := Lib.hid (own_mono ho4 hBs)
      clear ho4 b4
      go_wp2_with fail
      go_ret2
      refine ⟨v4, rfl, ?_, HB4.out⟩
      rw [HF1.out]
      exact HO4.out
end Go.Proofs.Ytidofckanadkpaa.pi5

namespace Go.Proofs.Ytidofckanadkpaa.pi5
open Go.RowKit
open reads base inn ty rowi psk psl psm psn pso psp pq tab
set_option linter.unusedVariables false
set_option linter.unusedSimpArgs false
set_option maxRecDepth 100000

theorem find_first {α : Type} {p : α → Bool} : ∀ {L : List α} {k : Nat} {s : α}, L[k]? = some s → p s = true → (L.take k).all (fun s => !p s) = true → L.find? p = some s
  | [], k, s, h, _, _ => by simp at h
  | a :: L, 0, s, h, hp, _ => by
    obtain rfl : a = s := by simpa using h
    simp [hp]
  | a :: L, k + 1, s, h, hp, ha => by
    rw [List.take_succ_cons, List.all_cons, Bool.and_eq_true] at ha
    have h1 : p a = false := by simpa using ha.1
    rw [List.find?_cons, h1]
    exact find_first (by simpa using h) hp ha.2
theorem find_none_of {α : Type} {p : α → Bool} {L : List α} (h : L.all (fun s => !p s) = true) : L.find? p = none := by
  rw [List.find?_eq_none]
  intro x hx
  have := (List.all_eq_true.1 h) x hx
  simpa using this
set_option maxHeartbeats 8000000 in
theorem first_is (A : Option Addr) (n cap : Nat) (r : List Ps) (m : Nat) (F : List Ps) (w : World) (hn : n ≤ 10) (hm : m ≤ 3) (hc : n ≤ cap) (hk : Hid (pt.okS r)) (hts : Hid (PsAt w w.heap.size A n r)) (hF : Hid (pt.first r m = F)) :
    Calls Try.prog 82 #[.slice A n cap, .int .i64 m] w (QPost F w) := by
  have hL : Hid (r.length = n) := Lib.hid hts.out.1
  obtain ⟨L, HL⟩ : ∃ L, Hid (pt.teams r = L) := ⟨_, Lib.hid rfl⟩
  obtain ⟨N, HN⟩ : ∃ N, Hid (L.length = N) := ⟨_, Lib.hid rfl⟩
  have hN : N ≤ 1024 := by rw [← HN.out, ← HL.out]; exact teams_le (by rw [hL.out]; exact hn)
  have HFI := Lib.hid (show (L.find? fun s => decide (m ≤ pt.prs (pt.wo r s))).getD [] = F by rw [← hF.out, ← HL.out]; rfl)
  go_enter Try.func82, Try.ntmps82
  go_wp2_with fail
  refine (teamsAmong_is A n cap r L _ hn hc hk hts HL).mono ?_
  rintro e w3 ⟨v2, vs, rfl, ho2, ht2, b3⟩
  rw [HN.out] at ho2
  obtain ⟨A2, c2, rfl⟩ := row_slice ho2
  have HB3 := Lib.hid b3
  have HO2 := Lib.hid ho2
  have HTT := Lib.hid ht2
  clear ho2 ht2 b3
  go_wp2_with fail
  go_loopw [10] (fun i wr => ∃ k : Nat, k ≤ N ∧ i = .int .i64 k ∧ Hid ((L.take k).all (fun s => !decide (m ≤ pt.prs (pt.wo r s))) = true) ∧ Hid (wr.ownsRow w.heap.size 24 1 (.slice A2 N c2) N vs) ∧ Hid (TabV 41 4 flatPs wr w.heap.size vs L) ∧ Below w.heap.size w wr) (fun i _ => N - (intOf i).toNat)
  case atStart => exact ⟨0, Nat.zero_le _, rfl, Lib.hid (by simp), HO2, HTT, HB3.out⟩
  case round =>
    obtain ⟨k, hkN, rfl, HI, HO, HTB, hB⟩ := hrel
    have HBr := Lib.hid hB
    have hBs := hB.size
    clear hB HO2 HTT HB3
    have hk0 : 0 ≤ (k : Int) := by omega
    by_cases hlt : k < N
    · have hki : (k : Int) < (N : Int) := by omega
      have hkd : decide (k < N) = true := by simpa using hlt
      obtain ⟨s, hsk⟩ := at_lt HN.out hlt
      have HSK := Lib.hid hsk
      obtain ⟨g, A3, m3, c3, rfl, hg, cg, hm3, ho3⟩ := tab_at HN.out HO.out HTB.out hsk
      have HPS := Lib.hid (own_Ps hm3 ho3)
      have HM3 := Lib.hid hm3
      have HOS := Lib.hid ho3
      have hm5 : m3 ≤ 5 := by rw [← hm3]; exact (pt.teamS_len (team_mem HL.out hsk).2).2
      have HTS := Lib.hid (show PsAt wr wr.heap.size A n r from hts.out.step HBr.out)
      obtain ⟨W, HW⟩ : ∃ W, Hid (pt.wo r s = W) := ⟨_, Lib.hid rfl⟩
      obtain ⟨wl, HWL⟩ : ∃ wl, Hid (W.length = wl) := ⟨_, Lib.hid rfl⟩
      have hwl : wl ≤ n := by rw [← HWL.out, ← HW.out, ← hL.out]; exact wo_len r s
      have HKW := Lib.hid (show pt.okS W from fun t ht => hk.out t ((pt.wo_sub r s).subset (by rw [HW.out]; exact ht)))
      obtain ⟨v, HV⟩ : ∃ v, Hid (pt.prs W = v) := ⟨_, Lib.hid rfl⟩
      have HPV := Lib.hid (show decide (m ≤ pt.prs (pt.wo r s)) = decide (m ≤ v) by rw [HW.out, HV.out])
      clear hsk hm3 ho3
      go_wp2_with fail
      refine (without_is A n cap r A3 m3 c3 s W _ HW (by omega) (by omega) HTS HPS).mono ?_
      rintro e w4 ⟨v4, rfl, ho4, b4⟩
      rw [HWL.out] at ho4
      obtain ⟨A4, c4, rfl⟩ := row_slice ho4
      have HB4 := Lib.hid (HBr.out.trans (b4.mono hBs))
      have HO4 := Lib.hid (row_below HO.out b4)
      have HT4 := Lib.hid (HTB.out.below b4)
      have HS4 := Lib.hid (row_below HOS.out b4)
      have HP4 := Lib.hid (own_Ps HWL.out ho4)
      clear b4 ho4 cg
      go_wp2_with fail
      refine (pairs_is A4 wl c4 W v _ (by omega) HKW HP4 HV).mono ?_
      rintro e w5 ⟨rfl, b5⟩
      have HB5 := Lib.hid (HB4.out.trans (b5.mono HB4.out.size))
      have HO5 := Lib.hid (row_below HO4.out b5)
      have HT5 := Lib.hid (HT4.out.below b5)
      have HS5 := Lib.hid (row_below HS4.out b5)
      clear b5
      by_cases hmv : m ≤ v
      · have hd : decide (m ≤ v) = true := by simpa using hmv
        have hd' : decide ((m : Int) ≤ (v : Int)) = true := by simpa using hmv
        obtain rfl : F = s := by
          rw [← HFI.out, find_first HSK.out (by simp only [HPV.out, hd]) HI.out]; rfl
        go_wp2_with fail
        go_ret
        exact ⟨.slice A3 m3 c3, rfl, by rw [HM3.out]; exact HS5.out, HB5.out⟩
      · have hd : decide (m ≤ v) = false := by simpa using hmv
        have hd' : decide ((m : Int) ≤ (v : Int)) = false := by simpa using hmv
        have HN2 := Lib.hid (all_take (p := fun s => !decide (m ≤ pt.prs (pt.wo r s))) HSK.out HI.out (by simp only [HPV.out, hd]; rfl))
        go_wp2_with fail
        go_roundw
        case rel => exact ⟨k + 1, by omega, by go_num, HN2, HO5, HT5, HB5.out⟩
        case measure => simp [intOf]; omega
    · have hkd : decide (k < N) = false := by simpa using hlt
      obtain rfl : F = [] := by
        rw [← HFI.out, find_none_of (by have := HI.out; rwa [List.take_of_length_le (by rw [HN.out]; omega)] at this)]; rfl
      have HR := Lib.hid (show (wr.alloc (.cells #[] 41)).ownsRow w.heap.size 41 4 (.slice (some ⟨wr.heap.size, 0, none⟩) 0 0) 0 [] from World.ownsRow_made wr #[] 0 hBs (by decide) (by simp))
      clear hlt
      go_wp2_with fail
      go_ret
      exact ⟨.slice (some ⟨wr.heap.size, 0, none⟩) 0 0, rfl, HR.out, HBr.out.alloc hBs _⟩
/-- the people who are left: the list that came in, or one of the call's own -/
def RA (w wr : World) (A : Option Addr) (n c : Nat) (r : List Ps) : Prop := r.length = n ∧ (PsAt w w.heap.size A n r ∨ wr.ownsRow w.heap.size 41 4 (.slice A n c) n (flatPs r))
theorem RA.at_ {w wr : World} {A : Option Addr} {n c : Nat} {r : List Ps} (h : RA w wr A n c r) (hb : Below w.heap.size w wr) : PsAt wr wr.heap.size A n r := by
  rcases h.2 with q | q
  · exact q.step hb
  · exact own_Ps h.1 q
theorem RA.step {w wr w' : World} {A : Option Addr} {n c : Nat} {r : List Ps} (h : RA w wr A n c r) (hb : Below wr.heap.size wr w') : RA w w' A n c r := ⟨h.1, h.2.imp id (fun q => row_below q hb)⟩
theorem RA.grown {w wr w' : World} {A : Option Addr} {n c : Nat} {r : List Ps} {b m : Nat} {v : Value} {us : List Value} (h : RA w wr A n c r) (ho : wr.ownsRow b 27 1 v m us) (hg : wr.grownBy w' v.ownBlock) : RA w w' A n c r :=
  ⟨h.1, h.2.imp id (fun q => q.kept hg (own_ne q ho (by decide)))⟩
theorem own_cap5 {w : World} {base size n c : Nat} {e : TypeId} {A : Option Addr} {xs : List Value} (h : w.ownsRow base e size (.slice A n c) n xs) : n ≤ c := by
  rcases h.2 with ⟨e1, e2⟩ | ⟨g, cp, cur, e1, _, _, h2, _⟩
  · injection e1 with _ e1 e3; omega
  · injection e1 with _ e1 e3; subst e3; exact h2
/-- lists of Ids that the call has made, none in another's memory, and a word -/
def TDPost (tss : List (List Int)) (t : Bool) (w : World) (e : Ending) (w' : World) : Prop :=
  ∃ v vs, e = .returned (.tuple #[v, .bool t]) ∧ w'.ownsRow w.heap.size 27 1 v vs.length vs ∧ TabV 3 1 ints.intsV w' w.heap.size vs tss ∧ Disj vs ∧ Below w.heap.size w w'
theorem min_two (b v : Nat) (h : min b 3 = v) (ts : Array TypeId) (t : TypeId) (P : Program) (W : World) : (Builtin.min_ ts t #[.int .i64 (b : Int), .int .i64 3]).run P W = .ok (.int .i64 (v : Int)) W := by
  have e : (if (3 : Int) < (b : Int) then (3 : Int) else (b : Int)) = (v : Int) := by split <;> omega
  simp [Builtin.min_, Builtin.min2]
  exact e
set_option maxHeartbeats 16000000 in
theorem splitTeams_is (A : Option Addr) (n cap : Nat) (ts : List Ps) (R : List (List Int)) (b : Bool) (w : World) (hR : Hid (stTss ts = R)) (hb : Hid (psg.good ts = b)) (hn : n ≤ 2000000) (hc : n ≤ cap) (hs : Hid (∀ t ∈ ts, t.name.size ≤ 1048576)) (hts : Hid (PsAt w w.heap.size A n ts)) :
    Calls Try.prog 33 #[.slice A n cap] w (TDPost R b w) := by
  have hL : Hid (ts.length = n) := Lib.hid hts.out.1
  cases hg : psg.good ts
  · have HG := Lib.hid hg
    obtain rfl : R = [] := by rw [← hR.out]; unfold stTss; rw [hg]; rfl
    obtain rfl : b = false := by rw [← hb.out]; exact hg
    clear hg
    go_enter Try.func33, Try.ntmps33
    go_wp2_with fail
    refine (people_is A n cap ts false _ hn hs hts HG).mono ?_
    rintro e w1 ⟨rfl, b1⟩
    have HB := Lib.hid b1
    have hBs := b1.size
    clear b1
    have HR := Lib.hid (show (w1.alloc (.cells #[] 27)).ownsRow w.heap.size 27 1 (.slice (some ⟨w1.heap.size, 0, none⟩) 0 0) 0 [] from World.ownsRow_made w1 #[] 0 hBs (by decide) (by simp))
    go_wp2_with fail
    go_ret2
    exact ⟨.slice (some ⟨w1.heap.size, 0, none⟩) 0 0, [], rfl, HR.out, TabV.nil, Disj.nil, HB.out.alloc hBs _⟩
  have HG := Lib.hid hg
  obtain rfl : b = true := by rw [← hb.out]; exact hg
  have hn10 : n ≤ 10 := by rw [← hL.out]; exact good_len hg
  have HOK := Lib.hid (good_okS hg)
  obtain ⟨v, HV⟩ : ∃ v, Hid (pt.prs ts = v) := ⟨_, Lib.hid rfl⟩
  obtain ⟨M, HM⟩ : ∃ M, Hid (min v 3 = M) := ⟨_, Lib.hid rfl⟩
  have hM3 : M ≤ 3 := by rw [← HM.out]; omega
  have HRR := Lib.hid (show (pt.psplit M ts).map pt.ids = R by
    have e1 : pt.mostS ts = M := by rw [pt.mostS_is, HV.out, ← HM.out, Nat.min_comm]
    rw [← hR.out]; unfold stTss; rw [hg, if_pos rfl, e1, pt.split_is (good_asc hg) M _ hM3 (by have := Nat.pow_pos (n := ts.length) (show 0 < 2 by omega); omega), pt.pick_full])
  have hmin : ∀ (tys : Array TypeId) (t : TypeId) (W : World), (Builtin.min_ tys t #[.int .i64 (v : Int), .int .i64 3]).run Try.prog W = .ok (.int .i64 (M : Int)) W := fun tys t W => min_two v M HM.out tys t Try.prog W
  obtain ⟨i0, hi, hz0, hz1, hz2⟩ := info_parts infoII
  clear hg
  go_enter Try.func33, Try.ntmps33
  go_wp2_with fail
  refine (people_is A n cap ts true _ hn hs hts HG).mono ?_
  rintro e w1 ⟨rfl, b1⟩
  have HB := Lib.hid b1
  have hBs := b1.size
  have HRo := Lib.hid (show (w1.alloc (.cells #[] 27)).ownsRow w.heap.size 27 1 (.slice (some ⟨w1.heap.size, 0, none⟩) 0 0) 0 [] from World.ownsRow_made w1 #[] 0 hBs (by decide) (by simp))
  have HE := Lib.hid (HB.out.alloc hBs (.cells #[] 27))
  have HT1 := Lib.hid (hts.out.step HE.out)
  clear b1 hBs
  go_wp2_with fail
  refine (pairs_is A n cap ts v _ hn HOK HT1 HV).mono ?_
  rintro e w2 ⟨rfl, b2⟩
  have HB2 := Lib.hid (HE.out.trans (b2.mono HE.out.size))
  have HR2 := Lib.hid (row_below HRo.out b2)
  clear b2
  go_wp2_with fail
  clear hmin
  go_loopw [4, 5, 6] (fun o rr mm wr => ∃ (m nr cr : Nat) (Ao Ar : Option Addr) (co : Nat) (vs : List Value) (tss : List (List Int)) (r : List Ps), m ≤ 3 ∧ tss.length + m ≤ 3 ∧ nr ≤ 10 ∧ nr ≤ cr ∧ mm = .int .i64 m ∧ o = .slice Ao tss.length co ∧ rr = .slice Ar nr cr ∧ Hid (pt.okS r) ∧ Hid (tss ++ (pt.psplit m r).map pt.ids = R) ∧ Hid (wr.ownsRow w.heap.size 27 1 (.slice Ao tss.length co) tss.length vs) ∧ Hid (TabV 3 1 ints.intsV wr w.heap.size vs tss) ∧ Hid (Disj vs) ∧ Hid (RA w wr Ar nr cr r) ∧ Below w.heap.size w wr) (fun _ _ mm _ => (intOf mm).toNat)
  case atStart => exact ⟨M, n, cap, _, A, 0, [], [], ts, hM3, by simpa using hM3, hn10, hc, rfl, rfl, rfl, HOK, Lib.hid (by rw [List.nil_append]; exact HRR.out), HR2, Lib.hid TabV.nil, Lib.hid Disj.nil, Lib.hid ⟨hL.out, .inl hts.out⟩, HB2.out⟩
  case round =>
    obtain ⟨m1, nr, cr, Ao, Ar, co, vs, tss, r, hm, htl, hnr, hcr, rfl, rfl, rfl, HOR, HQ, HO, HTB, HDJ, HRA, hB⟩ := hrel
    have HBr := Lib.hid hB
    have hBs := hB.size
    clear hB
    by_cases hm0 : m1 = 0
    · subst hm0
      have HF := Lib.hid (show tss = R by have := HQ.out; rwa [pt.psplit, List.map_nil, List.append_nil] at this)
      go_wp2_with fail
      go_ret2
      refine ⟨.slice Ao tss.length co, vs, rfl, ?_, by rw [← HF.out]; exact HTB.out, HDJ.out, HBr.out⟩
      rw [HTB.out.1]; exact HO.out
    obtain ⟨m, hm1⟩ : ∃ m, m1 = m + 1 := ⟨m1 - 1, by omega⟩
    have hmi : (m1 : Int) - 1 = (m : Int) := by omega
    have hmp : decide (0 < m1) = true := by simp; omega
    have hmp' : decide ((0 : Int) < (m1 : Int)) = true := by simp; omega
    have hm2 : m ≤ 2 := by omega
    have hmm : 0 < m1 := by omega
    obtain ⟨F, HF⟩ : ∃ F, Hid (pt.first r m = F) := ⟨_, Lib.hid rfl⟩
    obtain ⟨r2, HR3⟩ : ∃ r2, Hid (pt.wo r F = r2) := ⟨_, Lib.hid rfl⟩
    have HQ2 := Lib.hid (show (tss ++ [pt.ids F]) ++ (pt.psplit m r2).map pt.ids = R by
      have e := HQ.out
      rw [hm1, pt.psplit, List.map_cons, HF.out, HR3.out] at e
      rw [List.append_assoc]; exact e)
    have HRL := Lib.hid HRA.out.1
    have HPR := Lib.hid (HRA.out.at_ HBr.out)
    have HM1 := Lib.hid hm1
    clear hm1 hm0 HQ
    obtain ⟨fl, HFL⟩ : ∃ fl, Hid (F.length = fl) := ⟨_, Lib.hid rfl⟩
    obtain ⟨rl, HRL2⟩ : ∃ rl, Hid (r2.length = rl) := ⟨_, Lib.hid rfl⟩
    have hfl : fl ≤ 5 := by
      rw [← HFL.out, ← HF.out]
      unfold pt.first
      cases e : (pt.teams r).find? (fun s => decide (m ≤ pt.prs (pt.wo r s))) with
      | none => simp
      | some s => exact (pt.teamS_len (pt.mem_teams.1 (List.mem_of_find?_eq_some e)).2).2
    have hrl : rl ≤ nr := by rw [← HRL2.out, ← HR3.out, ← HRL.out]; exact wo_len r F
    have HOR2 := Lib.hid (show pt.okS r2 from fun t ht => HOR.out t ((pt.wo_sub r F).subset (by rw [HR3.out]; exact ht)))
    go_wp2_with fail
    refine (first_is Ar nr cr r m F _ hnr (by omega) hcr HOR HPR HF).mono ?_
    rintro e w3 ⟨v3, rfl, ho3, b3⟩
    rw [HFL.out] at ho3
    obtain ⟨A3, c3, rfl⟩ := row_slice ho3
    have HB3 := Lib.hid (HBr.out.trans (b3.mono hBs))
    have HO3 := Lib.hid (row_below HO.out b3)
    have HT3 := Lib.hid (HTB.out.below b3)
    have HR4 := Lib.hid (HRA.out.step b3)
    have HF3 := Lib.hid (own_mono ho3 hBs)
    have HP3 := Lib.hid (own_Ps HFL.out ho3)
    clear b3 ho3 HO HTB HRA
    go_wp2_with fail
    refine (idsOf_is A3 fl c3 F _ (by omega) HP3).mono ?_
    rintro e w4 ⟨v4, rfl, ho4, b4⟩
    obtain ⟨il, HIL⟩ : ∃ il, Hid ((pt.ids F).length = il) := ⟨_, Lib.hid rfl⟩
    rw [HIL.out] at ho4
    obtain ⟨A4, c4, rfl⟩ := row_slice ho4
    have HB4 := Lib.hid (HB3.out.trans (b4.mono HB3.out.size))
    have HO4 := Lib.hid (row_below HO3.out b4)
    have HT4 := Lib.hid (HT3.out.below b4)
    have HR5 := Lib.hid (HR4.out.step b4)
    have HF4 := Lib.hid (row_below HF3.out b4)
    have HI4 := Lib.hid (own_mono ho4 HB3.out.size)
    have HDN := Lib.hid (HDJ.out.snoc (HT3.out.later ho4 (Nat.le_refl _)))
    have hBs4 := HB4.out.size
    clear b4 ho4 HO3 HT3 HR4 HF3 HP3 HB3
    have HTL := Lib.hid HT4.out.1
    go_wp2_with (at_builtin; refine wpList_append_own _ rfl _ _ 48 rfl w.heap.size 27 i0 (.slice none 0 0) 1 24 Try.underlying48 hi hz0 hz1 hz2 rfl (by decide) _ _ _ rfl (HO4.out.alloc _) ⟨w4.heap.size, 0, none⟩ 1 1 [.slice A4 il c4] rfl rfl (cell_one_new _ _ _) (by simp [Value.oneCell']) (by unfold maxLen; omega) (by omega) (by simp; omega) ?_; intro v' w9 hown' hgrow _)
    have HB9 := Lib.hid ((HB4.out.alloc hBs4 (.cells #[.slice A4 il c4] 27)).grown hgrow (by simp; omega) (fun j ej => (HO4.out.lt j ej).1))
    have HAL := (Below.refl w4.heap.size w4).alloc (Nat.le_refl _) (.cells #[.slice A4 il c4] 27)
    have HTG := (HT4.out.below HAL).grown (HO4.out.alloc (.cells #[.slice A4 il c4] 27)) hgrow (by decide)
    have HIG := (HI4.out.alloc (.cells #[.slice A4 il c4] 27)).kept hgrow (own_ne (HI4.out.alloc (.cells #[.slice A4 il c4] 27)) (HO4.out.alloc (.cells #[.slice A4 il c4] 27)) (by decide))
    have HFG := Lib.hid ((HF4.out.alloc (.cells #[.slice A4 il c4] 27)).kept hgrow (own_ne (HF4.out.alloc (.cells #[.slice A4 il c4] 27)) (HO4.out.alloc (.cells #[.slice A4 il c4] 27)) (by decide)))
    have HT9 := Lib.hid (HTG.snoc (x := pt.ids F) (by rw [HIL.out]; exact HIG))
    have HRG := Lib.hid ((HR5.out.step HAL).grown (HO4.out.alloc (.cells #[.slice A4 il c4] 27)) hgrow)
    have HO9 := Lib.hid hown'
    obtain ⟨A9, c9, rfl⟩ := row_slice hown'
    have HL9 := Lib.hid (show (tss ++ [pt.ids F]).length = tss.length + 1 by simp)
    have HP9 := Lib.hid (own_Ps HFL.out HFG.out)
    have HPR9 := Lib.hid (HRG.out.at_ HB9.out)
    clear hown' hgrow HTG HIG HAL
    go_wp2_with fail
    refine (without_is Ar nr cr r A3 fl c3 F r2 _ HR3 (by omega) (by omega) HPR9 HP9).mono ?_
    rintro e w5 ⟨v5, rfl, ho5, b5⟩
    rw [HRL2.out] at ho5
    obtain ⟨A5, c5, rfl⟩ := row_slice ho5
    have HB5 := Lib.hid (HB9.out.trans (b5.mono HB9.out.size))
    have HO5 := Lib.hid (row_below HO9.out b5)
    have HT5 := Lib.hid (HT9.out.below b5)
    have HRA5 := Lib.hid (show RA w w5 A5 rl c5 r2 from ⟨HRL2.out, .inr (own_mono ho5 HB9.out.size)⟩)
    have hc5 := own_cap5 ho5
    clear b5 ho5
    go_wp2_with fail
    go_roundw
    case rel => exact ⟨m, rl, c5, A9, A5, c9, vs ++ [.slice A4 il c4], tss ++ [pt.ids F], r2, by omega, by rw [HL9.out]; omega, by omega, hc5, rfl, by rw [HL9.out], rfl, HOR2, HQ2, Lib.hid (by rw [HL9.out]; exact HO5.out), HT5, HDN, HRA5, HB5.out⟩
    case measure => simp [intOf]; omega
end Go.Proofs.Ytidofckanadkpaa.pi5
