/-
  A copy of a list of people, people without some others, by the program.
  Conditions: at most 2000000 people, in one block each.
-/
import Derived.Test.YtidofckanadkpaaPiG
import Derived.Test.YtidofckanadkpaaTab
import Derived.Lib.SliceRun
namespace Go.Proofs.Ytidofckanadkpaa.pi5
open Go.RowKit
open reads base inn ty rowi psk psl psm psn pso psp pq tab
set_option linter.unusedVariables false
set_option linter.unusedSimpArgs false
set_option maxRecDepth 100000

/-- people that the call has made -/
def QPost (ps : List Ps) (w : World) (e : Ending) (w' : World) : Prop :=
  ∃ v, e = .returned v ∧ w'.ownsRow w.heap.size 41 4 v ps.length (flatPs ps) ∧ Below w.heap.size w w'
set_option maxHeartbeats 4000000 in
theorem clone_people (b n : Nat) (v : Value) (ps : List Ps) (w : World) (hn : n ≤ 2000000) (hl : Hid (ps.length = n)) (ho : Hid (w.ownsRow b 41 4 v n (flatPs ps))) :
    Calls Try.prog 107 #[v] w (QPost ps w) := by
  obtain ⟨i0, hi, hz0, hz1, hz2⟩ := info_parts infoPs
  have hrow0 : (w.alloc (.cells #[] 41)).ownsRow w.heap.size 41 4 (.slice (some ⟨w.heap.size, 0, none⟩) 0 0) 0 [] := World.ownsRow_made w #[] 0 (Nat.le_refl _) (by decide) (by simp)
  have HRow := Lib.hid hrow0
  have HB0 := Lib.hid ((Below.refl w.heap.size w).alloc (Nat.le_refl _) (.cells #[] 41))
  have HFL := Lib.hid (show (flatPs ps).length = n * 4 by rw [flatPs_len, hl.out])
  clear hrow0
  have q22 : ∀ (W : World) (a : Option Addr) (n c n' c' : Nat), (binOp .eql 24 (.slice a n c) (.slice none n' c')).run Try.prog W = .ok (.bool a.isNone) W := fun W a n c n' c' => Lib.run_eql_slice_nil W _ _ a n c n' c' Try.underlying24
  rcases ho.out.2 with ⟨hv, hn0⟩ | ⟨g, cp, cur, hv, hg⟩
  · subst hv
    obtain rfl : n = 0 := hn0
    obtain rfl : ps = [] := List.length_eq_zero_iff.1 hl.out
    go_enter Try.func107, Try.ntmps107
    go_wp2_with fail
    go_ret
    exact ⟨.slice none 0 0, rfl, World.ownsRow_nil _ _ _ _, Below.refl _ _⟩
  · subst hv
    have HC := Lib.hid (show ∀ j u, (flatPs ps)[j]? = some u → (w.alloc (.cells #[] 41)).cell? ((⟨g, 0, none⟩ : Addr).add j) = some u from (ho.out.alloc _).cells rfl)
    go_enter Try.func107, Try.ntmps107
    go_wp2_with (at_builtin; refine wpList_append_own _ rfl _ _ 24 rfl w.heap.size 41 i0 _ 4 40 Try.underlying24 hi hz0 hz1 hz2 rfl (by decide) _ _ _ rfl HRow.out ⟨g, 0, none⟩ n cp (flatPs ps) rfl HFL.out HC.out (flat_one ps) (by unfold maxLen; omega) (by omega) (by simp) ?_; intro v' w3 hown' hgrow _)
    rw [Nat.zero_add, List.nil_append] at hown'
    have HB3 := Lib.hid (HB0.out.grown hgrow (by simp) (fun j ej => (HRow.out.lt j ej).1))
    have HO := Lib.hid hown'
    clear hown' hgrow
    go_wp2_with fail
    go_ret
    exact ⟨v', rfl, by rw [hl.out]; exact HO.out, HB3.out⟩
theorem wo_take {r s : List Ps} {k : Nat} {t : Ps} (h : r[k]? = some t) : pt.wo (r.take (k + 1)) s = pt.wo (r.take k) s ++ (if pt.inP s t then [] else [t]) := by
  unfold pt.wo
  rw [base.take_snoc h, List.filter_append]
  cases e : pt.inP s t <;> simp [e]
theorem wo_len (r s : List Ps) : (pt.wo r s).length ≤ r.length := (pt.wo_sub r s).length_le
set_option maxHeartbeats 8000000 in
set_option maxRecDepth 100000 in
theorem without_is (A : Option Addr) (n cap : Nat) (ts : List Ps) (A' : Option Addr) (m cap' : Nat) (ss P : List Ps) (w : World) (hP : Hid (pt.wo ts ss = P)) (hn : n ≤ 2000000) (hm : m ≤ 2000000) (hts : Hid (PsAt w w.heap.size A n ts)) (hss : Hid (PsAt w w.heap.size A' m ss)) :
    Calls Try.prog 83 #[.slice A n cap, .slice A' m cap'] w (QPost P w) := by
  obtain ⟨i0, hi, hz0, hz1, hz2⟩ := info_parts infoPs
  have hL : Hid (ts.length = n) := Lib.hid hts.out.1
  have hrow0 : (w.alloc (.cells #[] 41)).ownsRow w.heap.size 41 4 (.slice (some ⟨w.heap.size, 0, none⟩) 0 0) 0 [] := World.ownsRow_made w #[] 0 (Nat.le_refl _) (by decide) (by simp)
  have HRow := Lib.hid hrow0
  have HB0 := Lib.hid ((Below.refl w.heap.size w).alloc (Nat.le_refl _) (.cells #[] 41))
  clear hrow0
  go_enter Try.func83, Try.ntmps83
  go_wp2_with fail
  go_loopw [5, 11] (fun v i wr => ∃ (k p c3 : Nat) (A3 : Option Addr) (ps : List Ps), k ≤ n ∧ p ≤ k ∧ i = .int .i64 k ∧ v = .slice A3 p c3 ∧ Hid (ps.length = p) ∧ Hid (pt.wo (ts.take k) ss = ps) ∧ Hid (wr.ownsRow w.heap.size 41 4 (.slice A3 p c3) p (flatPs ps)) ∧ Below w.heap.size w wr) (fun _ i _ => n - (intOf i).toNat)
  case atStart => exact ⟨0, 0, _, _, [], Nat.zero_le _, Nat.zero_le _, rfl, rfl, Lib.hid rfl, Lib.hid rfl, HRow, HB0.out⟩
  case round =>
    obtain ⟨k, p, c3, A3, ps, hk, hpk, rfl, rfl, HPL, HGN, HO, hB⟩ := hrel
    have HBr := Lib.hid hB
    have hBs := hB.size
    clear hB HRow HB0
    by_cases hlt : k < n
    · have hki : (k : Int) < (n : Int) := by omega
      have hk0 : 0 ≤ (k : Int) := by omega
      have hkd : decide (k < n) = true := by simpa using hlt
      obtain ⟨t, htk⟩ := at_lt hL.out hlt
      obtain ⟨g, rfl, hg, h0, h1, h2, h3⟩ := (hts.out.below HBr.out).2 k t htk
      have HWT := Lib.hid (wo_take (s := ss) htk)
      obtain ⟨X, HX⟩ : ∃ X, Hid (wr.heap.size = X) := ⟨_, Lib.hid rfl⟩
      obtain ⟨W, HW, HWO, HWB, HWC⟩ : ∃ W, Hid (wr.alloc (.cells #[.int .i64 t.id, .string t.name, .int .i64 t.skills, .int .i64 t.trips] 41) = W) ∧ Hid (W.ownsRow w.heap.size 41 4 (.slice A3 p c3) p (flatPs ps)) ∧ Hid (Below w.heap.size w W) ∧ Hid (Blk W wr.heap.size 41 #[.int .i64 t.id, .string t.name, .int .i64 t.skills, .int .i64 t.trips]) := ⟨_, Lib.hid rfl, Lib.hid (HO.out.alloc _), Lib.hid (HBr.out.alloc hBs _), Lib.hid (Blk.new _ _ _)⟩
      rw [HX.out] at HWC
      have HSS := Lib.hid (show PsAt W W.heap.size A' m ss from hss.out.step HWB.out)
      obtain ⟨r, HR⟩ : ∃ r, Hid (pt.inP ss t = r) := ⟨_, Lib.hid rfl⟩
      clear htk
      go_upto_region 5 with fail
      rw [HW.out, HX.out]
      have e0 := HWC.out.cell 0
      have e1 := HWC.out.cell 1
      have e2 := HWC.out.cell 2
      have e3 := HWC.out.cell 3
      clear h0 h1 h2 h3 HW
      go_wp2_with fail
      refine (contains_people A' m cap' ss t r HR _ hm HSS).mono ?_
      rintro e w3 ⟨rfl, b3⟩
      have HK3 := Lib.hid (HWC.out.below b3 HWC.out.lt)
      have HB3 := Lib.hid (HWB.out.trans (b3.mono HWB.out.size))
      have HO3 := Lib.hid (row_below HWO.out b3)
      clear b3 e0 e1 e2 e3
      have e0 := HK3.out.cell 0
      have e1 := HK3.out.cell 1
      have e2 := HK3.out.cell 2
      have e3 := HK3.out.cell 3
      have hWs := HB3.out.size
      cases r
      · have HNX := Lib.hid (show pt.wo (ts.take (k + 1)) ss = ps ++ [t] by rw [HWT.out, HGN.out, HR.out]; rfl)
        go_wp2_with (at_builtin; refine wpList_append_own _ rfl _ _ 24 rfl w.heap.size 41 i0 _ 4 40 Try.underlying24 hi hz0 hz1 hz2 rfl (by decide) _ _ _ rfl (HO3.out.alloc _) ⟨w3.heap.size, 0, none⟩ 1 1 [.int .i64 t.id, .string t.name, .int .i64 t.skills, .int .i64 t.trips] rfl rfl (World.news_of_block (alloc_at rfl)) (by simp [Value.oneCell']) (by unfold maxLen; omega) (by omega) (by simp; omega) ?_; intro v' w9 hown' hgrow _)
        obtain ⟨A9, c9, rfl⟩ := row_slice hown'
        go_roundw
        case rel =>
          refine ⟨k + 1, p + 1, c9, A9, ps ++ [t], by omega, by omega, by go_num, rfl, Lib.hid (by simp [HPL.out]), HNX, Lib.hid (by rw [flatPs_app]; exact hown'), ?_⟩
          exact (HB3.out.alloc hWs _).grown hgrow (by simp; omega) (fun j ej => (HO3.out.lt j ej).1)
        case measure => simp [intOf]; omega
      · have HNX := Lib.hid (show pt.wo (ts.take (k + 1)) ss = ps by rw [HWT.out, HGN.out, HR.out]; simp)
        go_wp2_with fail
        go_roundw
        case rel => exact ⟨k + 1, p, c3, A3, ps, by omega, by omega, by go_num, rfl, HPL, HNX, HO3, HB3.out⟩
        case measure => simp [intOf]; omega
    · have hkd : decide (k < n) = false := by simpa using hlt
      obtain rfl : ps = P := by rw [← HGN.out, List.take_of_length_le (by rw [hL.out]; omega)]; exact hP.out
      clear hlt
      go_wp2_with fail
      go_ret
      exact ⟨.slice A3 p c3, rfl, by rw [HPL.out]; exact HO.out, HBr.out⟩
#print axioms clone_people
#print axioms without_is
end Go.Proofs.Ytidofckanadkpaa.pi5
