/-
  Small helpers of the laws: a great code, equal lists of ints.
  rEntries at two lists of one content.
  A spoilt text, as it is drawn, of any size up to 600.
  What FnBooks asks, as mathematics: a book's text read again, lines told.
  The drawn entries and books, behind their functions.
  ParseEntry of the model: it hands on.
  FnBooks: the law's walk.
  Conditions: those that each theorem names.
-/
import Derived.Test.YtnlljdepcldibaaGreatDoorIntV
import Derived.Test.YtnlljdepcldibaaGreatDoorTyEn
import Derived.Test.YtnlljdepcldibaaGreatDoorBase
import Derived.Lib.Hide
import Derived.Deep.QuietTactic
import Derived.BigQuiet
import Derived.Test.YtnlljdepcldibaaGreatDoorCurE
import Derived.Test.YtnlljdepcldibaaGreatDoorTxt
import Derived.Deep.RegionHeld3
import Derived.Deep.DeepCutAuto
import Derived.Test.YtnlljdepcldibaaGreatDoorEtG
import Derived.Test.YtnlljdepcldibaaGreatDoorEtE
import Derived.Test.YtnlljdepcldibaaGreatDoorDeB
import Derived.Test.YtnlljdepcldibaaGreatDoorEtD
import Derived.Test.YtnlljdepcldibaaGreatDoorEtF
import Derived.Test.YtnlljdepcldibaaGreatDoorEnd
namespace Go.Proofs.YtnlljdepcldibaaGreatDoor.rs
open Go.RowKit
open reads ints
set_option linter.unusedVariables false

theorem big_yes (A : Option Addr) (n cap : Nat) (w : World) (h : 65536 < n) (hm : n ≤ maxLen) :
    Calls Tryz.prog 4 #[.slice A n cap] w fun e w' => e = .returned (.bool true) ∧ w = w' := by
  unfold maxLen at hm
  have hd : decide (65536 < n) = true := by simpa using h
  have hd2 : decide (65536 < (n : Int)) = true := by simp; omega
  go_enter Tryz.func4, Tryz.ntmps4
  go_wp2_with fail
  go_ret
  exact ⟨rfl, rfl⟩
theorem big_no (A : Option Addr) (n cap : Nat) (w : World) (h : n ≤ 65536) :
    Calls Tryz.prog 4 #[.slice A n cap] w fun e w' => e = .returned (.bool false) ∧ w = w' := by
  have hd : decide (65536 < n) = false := by simpa using h
  have hd2 : decide (65536 < (n : Int)) = false := by simp; omega
  go_enter Tryz.func4, Tryz.ntmps4
  go_wp2_with fail
  go_ret
  exact ⟨rfl, rfl⟩
end Go.Proofs.YtnlljdepcldibaaGreatDoor.rs

namespace Go.Proofs.YtnlljdepcldibaaGreatDoor.der
open Go.RowKit
open reads base ty
set_option linter.unusedVariables false
set_option linter.unusedSimpArgs false

set_option maxHeartbeats 4000000 in
set_option maxRecDepth 100000 in
theorem rentries_any (A A' : Option Addr) (n c c' : Nat) (ts : List En) (w : World) (hn : n ≤ 2000000) (h : Hid (EnAt w w.heap.size A n ts)) (h' : Hid (EnAt w w.heap.size A' n ts)) :
    Calls Tryz.prog 16 #[.slice A n c, .slice A' n c'] w (BPost true w) := by
  go_enter Tryz.func16, Tryz.ntmps16
  go_wp2_with fail
  go_loopw [5] (fun i wr => ∃ k m : Nat, k ≤ n ∧ i = .int .i64 k ∧ wr = w.drewN m) (fun i _ => n - (intOf i).toNat)
  case atStart => exact ⟨0, 0, Nat.zero_le _, rfl, rfl⟩
  case round =>
    obtain ⟨k, m, hk, rfl, rfl⟩ := hrel
    by_cases hlt : k < n
    · obtain ⟨x, hx⟩ : ∃ x, ts[k]? = some x := ⟨_, List.getElem?_eq_getElem (by rw [h.out.1]; exact hlt)⟩
      obtain ⟨g, rfl, hg, d0, d1, d2, d3, d4, d5⟩ := h.out.2 k x hx
      obtain ⟨g', rfl, hg', e0, e1, e2, e3, e4, e5⟩ := h'.out.2 k x hx
      clear hx
      have hki : (k : Int) < (n : Int) := by omega
      have hk0 : 0 ≤ (k : Int) := by omega
      have hkd : decide (k < n) = true := by simpa using hlt
      go_wp2_with fail
      go_quiet (fail)
      go_wp2_with fail
      go_roundw
      case rel => exact ⟨k + 1, _, by omega, by go_num, rfl⟩
      case measure => simp [intOf]; omega
    · have hkd : decide (k < n) = false := by simpa using hlt
      go_wp2_with fail
      go_ret
      exact ⟨rfl, drewN_below _ _⟩
end Go.Proofs.YtnlljdepcldibaaGreatDoor.der

namespace Go.Proofs.YtnlljdepcldibaaGreatDoor.spb
open Go.RowKit
open reads curs curd cure base
set_option linter.unusedVariables false
set_option linter.unusedSimpArgs false

theorem pickw (B b k : Nat) (A : Option Addr) (n cap : Nat) (zs : List UInt8) (w : World) (x : Nat) (hk : k ≤ 80000) (h : Cur w B b k A n cap zs) (h0 : 0 < x) (h1 : x ≤ 600) :
    Calls Tryz.prog 40 #[.pointer (some ⟨b, 0, none⟩), .int .i64 x] w (NPost B b (k + 2) A n cap zs (x - 1) w) := by
  by_cases q : x ≤ 200
  · refine (pick_any B b k A n cap zs w x (by omega) h h0 q).mono ?_
    rintro e w1 ⟨r, h1, h2, h3, h4⟩
    exact ⟨r, h1, h2, cur_more h3 _ (by omega), h4⟩
  · exact pick_big B b k A n cap zs w x hk h (by omega) (by omega)
theorem grown_drew (u : World) (r : Option Nat) : u.grownBy u.drew r := ⟨rfl, rfl, rfl, Nat.le_refl _, fun _ _ _ => rfl⟩
/-- a spoilt text -/
def SPo (B b k : Nat) (A : Option Addr) (n cap : Nat) (zs : List UInt8) (m : Nat) (w : World) (e : Ending) (w' : World) : Prop :=
  ∃ s : ByteArray, e = .returned (.string s) ∧ s.size ≤ m ∧ Cur w' B b k A n cap zs ∧ w.grownBy w' (some b)
set_option maxHeartbeats 4000000 in
set_option maxRecDepth 100000 in
theorem spoilt_any (B b k : Nat) (A : Option Addr) (n cap : Nat) (zs : List UInt8) (t u : ByteArray) (m : Nat) (w : World) (hk : k ≤ 60000) (h : Hid (Cur w B b k A n cap zs)) (ht : Hid (t.size = m)) (h0 : 0 < m) (h1 : m ≤ 600) (hu : Hid (u.size = 7)) :
    Calls Tryz.prog 34 #[.pointer (some ⟨b, 0, none⟩), .string t, .string u] w (SPo B b (k + 4) A n cap zs (m + 1) w) := by
  have hne : t.toList.isEmpty = false := by
    rw [Lib.toList_data]
    have h2 : t.data.toList.length = m := ht.out
    cases hh : t.data.toList with
    | nil => rw [hh] at h2; simp at h2; omega
    | cons a l => rfl
  have htm := ht.out
  have hum := hu.out
  go_enter Tryz.func34, Tryz.ntmps34
  go_wp2_with fail
  refine (pickw B b k A n cap zs _ m (by omega) h.out h0 (by omega)).mono ?_
  rintro e w1 ⟨i, rfl, hi, hC, hg⟩
  have hi2 : i < m := by omega
  have HC1 := Lib.hid hC
  have HG1 := Lib.hid hg
  clear hC hg hi
  go_wp2_with fail
  refine (pick_any B b (k + 2) A n cap zs _ 7 (by omega) HC1.out (by omega) (by omega)).mono ?_
  rintro e w2 ⟨j, rfl, hj, hC, hg⟩
  have HC2 := Lib.hid hC
  have HG2 := Lib.hid (HG1.out.trans hg)
  clear hC hg HC1 HG1
  have hj7 : j ≤ 7 := by omega
  have hv : (u.extract j 7).size = 7 - j := by simp [ByteArray.size_extract]; omega
  go_wp2_with fail
  refine (pick_any B b (k + 3) A n cap zs _ 3 (by omega) HC2.out (by omega) (by omega)).mono ?_
  rintro e w3 ⟨q, rfl, hq, hC, hg⟩
  have HC3 := Lib.hid hC
  have HG3 := Lib.hid (HG2.out.trans hg)
  clear hC hg HC2 HG2
  obtain ⟨v, HV⟩ : ∃ v, Hid ((u.extract j 7).extract 0 1 = v) := ⟨_, Lib.hid rfl⟩
  have hvs : v.size = 1 := by rw [← HV.out]; simp [ByteArray.size_extract]; omega
  obtain ⟨a, HA⟩ : ∃ a, Hid (t.extract 0 i = a) := ⟨_, Lib.hid rfl⟩
  have has : a.size = i := by rw [← HA.out]; simp [ByteArray.size_extract]; omega
  have him : i ≤ m := by omega
  rw [HV.out]
  clear hv hum hu hj hj7
  by_cases q0 : q = 0
  · subst q0
    obtain ⟨c, HC⟩ : ∃ c, Hid (t.extract i m = c) := ⟨_, Lib.hid rfl⟩
    have hcs : c.size = m - i := by rw [← HC.out]; simp [ByteArray.size_extract]; omega
    go_upto_region 7 with fail
    obtain ⟨p1, P1⟩ : ∃ p, Hid (a ++ v = p) := ⟨_, Lib.hid rfl⟩
    obtain ⟨p2, P2⟩ : ∃ p, Hid (p1 ++ c = p) := ⟨_, Lib.hid rfl⟩
    have hp1 := txt.add_size P1.out
    have hp2 := txt.add_size P2.out
    have A1 := Lib.hid (fun W => txt.add_run P1.out 1000 (by omega) (by decide) W)
    have A2 := Lib.hid (fun W => txt.add_run P2.out 1000 (by omega) (by decide) W)
    refine wp_region_held_drew (S := (fun v => Cur v B b (k + 4) A n cap zs ∧ w.grownBy v (some b))) (by kernel_rfl) ?_ (fun hHeld => ?_)
    · exact ⟨cur_below HC3.out (drewN_below w3 1), HG3.out.trans (grown_drew w3 _)⟩
    refine' wpAnyH_take (i := 0) (v := ?vr1_0) rfl (by kernel_rfl) (by kernel_rfl) (by kernel_rfl) (fun _ _ _ h => h) (Or.inl ⟨by rfl, ?hyr1_0⟩) (by assumption) ?restr1_0
    case hyr1_0 => (intro w hSw; (try dsimp only at hSw); go_simp; try (with_reducible rfl))
    simp only [Act.put, List.getElem_toArray, List.getElem_cons_succ, List.getElem_cons_zero, List.setIfInBounds_toArray, List.set_cons_zero, List.set_cons_succ]
    refine' wpAnyH_take (i := 1) (v := ?vr1_1) rfl (by kernel_rfl) (by kernel_rfl) (by kernel_rfl) (fun _ _ _ h => h) (Or.inl ⟨by rfl, ?hyr1_1⟩) (by assumption) ?restr1_1
    case hyr1_1 => (intro w hSw; (try dsimp only at hSw); go_simp; try (with_reducible rfl))
    simp only [Act.put, List.getElem_toArray, List.getElem_cons_succ, List.getElem_cons_zero, List.setIfInBounds_toArray, List.set_cons_zero, List.set_cons_succ]
    refine' wpAnyH_take (i := 2) (v := ?vr1_2) rfl (by kernel_rfl) (by kernel_rfl) (by kernel_rfl) (fun _ _ _ h => h) (Or.inl ⟨by rfl, ?hyr1_2⟩) (by assumption) ?restr1_2
    case hyr1_2 => (intro w hSw; (try dsimp only at hSw); go_simp; try (with_reducible rfl))
    simp only [Act.put, List.getElem_toArray, List.getElem_cons_succ, List.getElem_cons_zero, List.setIfInBounds_toArray, List.set_cons_zero, List.set_cons_succ]
    simp only [HA.out]
    refine' wpAnyH_take (i := 3) (v := ?vr1_3) rfl (by kernel_rfl) (by kernel_rfl) (by kernel_rfl) (fun _ _ _ h => h) (Or.inl ⟨by rfl, ?hyr1_3⟩) (by assumption) ?restr1_3
    case hyr1_3 => (intro w hSw; (try dsimp only at hSw); go_simp; try (with_reducible rfl))
    simp only [Act.put, List.getElem_toArray, List.getElem_cons_succ, List.getElem_cons_zero, List.setIfInBounds_toArray, List.set_cons_zero, List.set_cons_succ]
    have hw := A1.out
    refine' wpAnyH_take (i := 4) (v := ?vr1_4) rfl (by kernel_rfl) (by kernel_rfl) (by kernel_rfl) (fun _ _ _ h => h) (Or.inl ⟨by rfl, ?hyr1_4⟩) (by assumption) ?restr1_4
    case hyr1_4 => (intro w hSw; (try dsimp only at hSw); go_simp; try (with_reducible rfl))
    simp only [Act.put, List.getElem_toArray, List.getElem_cons_succ, List.getElem_cons_zero, List.setIfInBounds_toArray, List.set_cons_zero, List.set_cons_succ]
    clear hw
    refine' wpAnyH_take (i := 5) (v := ?vr1_5) rfl (by kernel_rfl) (by kernel_rfl) (by kernel_rfl) (fun _ _ _ h => h) (Or.inl ⟨by rfl, ?hyr1_5⟩) (by assumption) ?restr1_5
    case hyr1_5 => (intro w hSw; (try dsimp only at hSw); go_simp; try (with_reducible rfl))
    simp only [Act.put, List.getElem_toArray, List.getElem_cons_succ, List.getElem_cons_zero, List.setIfInBounds_toArray, List.set_cons_zero, List.set_cons_succ]
    refine' wpAnyH_take (i := 6) (v := ?vr1_6) rfl (by kernel_rfl) (by kernel_rfl) (by kernel_rfl) (fun _ _ _ h => h) (Or.inl ⟨by rfl, ?hyr1_6⟩) (by assumption) ?restr1_6
    case hyr1_6 => (intro w hSw; (try dsimp only at hSw); go_simp; try (with_reducible rfl))
    simp only [Act.put, List.getElem_toArray, List.getElem_cons_succ, List.getElem_cons_zero, List.setIfInBounds_toArray, List.set_cons_zero, List.set_cons_succ]
    refine' wpAnyH_take (i := 7) (v := ?vr1_7) rfl (by kernel_rfl) (by kernel_rfl) (by kernel_rfl) (fun _ _ _ h => h) (Or.inl ⟨by rfl, ?hyr1_7⟩) (by assumption) ?restr1_7
    case hyr1_7 => (intro w hSw; (try dsimp only at hSw); go_simp; try (with_reducible rfl))
    simp only [Act.put, List.getElem_toArray, List.getElem_cons_succ, List.getElem_cons_zero, List.setIfInBounds_toArray, List.set_cons_zero, List.set_cons_succ]
    simp only [HC.out]
    have hw := A2.out
    refine' wpAnyH_take (i := 8) (v := ?vr1_8) rfl (by kernel_rfl) (by kernel_rfl) (by kernel_rfl) (fun _ _ _ h => h) (Or.inl ⟨by rfl, ?hyr1_8⟩) (by assumption) ?restr1_8
    case hyr1_8 => (intro w hSw; (try dsimp only at hSw); go_simp; try (with_reducible rfl))
    simp only [Act.put, List.getElem_toArray, List.getElem_cons_succ, List.getElem_cons_zero, List.setIfInBounds_toArray, List.set_cons_zero, List.set_cons_succ]
    clear hw
    refine' wpAnyH_take (i := 9) (v := ?vr1_9) rfl (by kernel_rfl) (by kernel_rfl) (by kernel_rfl) (fun _ _ _ h => h) (Or.inl ⟨by rfl, ?hyr1_9⟩) (by assumption) ?restr1_9
    case hyr1_9 => (intro w hSw; (try dsimp only at hSw); go_simp; try (with_reducible rfl))
    simp only [Act.put, List.getElem_toArray, List.getElem_cons_succ, List.getElem_cons_zero, List.setIfInBounds_toArray, List.set_cons_zero, List.set_cons_succ]
    refine wpAnyH_done (by kernel_rfl) ?_ _
    obtain ⟨HCE, HGE⟩ := hHeld
    have HCE := Lib.hid HCE
    have HGE := Lib.hid HGE
    go_wp2_with fail
    go_ret
    exact ⟨p2, rfl, by omega, HCE.out, HGE.out⟩
  by_cases q1 : q = 1
  · subst q1
    obtain ⟨i1, hi1⟩ : ∃ i1, i + 1 = i1 := ⟨_, rfl⟩
    have HW := Lib.hid (show IntKind.i64.wrap ((i : Int) + 1) = (i1 : Int) by rw [IntKind.wrap_i64]; omega)
    have him1 : i1 ≤ m := by omega
    obtain ⟨c, HC⟩ : ∃ c, Hid (t.extract i1 m = c) := ⟨_, Lib.hid rfl⟩
    have hcs : c.size = m - i1 := by rw [← HC.out]; simp [ByteArray.size_extract]; omega
    go_upto_region 9 with fail
    obtain ⟨p1, P1⟩ : ∃ p, Hid (a ++ v = p) := ⟨_, Lib.hid rfl⟩
    obtain ⟨p2, P2⟩ : ∃ p, Hid (p1 ++ c = p) := ⟨_, Lib.hid rfl⟩
    have hp1 := txt.add_size P1.out
    have hp2 := txt.add_size P2.out
    have A1 := Lib.hid (fun W => txt.add_run P1.out 1000 (by omega) (by decide) W)
    have A2 := Lib.hid (fun W => txt.add_run P2.out 1000 (by omega) (by decide) W)
    refine wp_region_held_drew (S := (fun v => Cur v B b (k + 4) A n cap zs ∧ w.grownBy v (some b))) (by kernel_rfl) ?_ (fun hHeld => ?_)
    · exact ⟨cur_below HC3.out (drewN_below w3 1), HG3.out.trans (grown_drew w3 _)⟩
    refine' wpAnyH_take (i := 0) (v := ?vr2_0) rfl (by kernel_rfl) (by kernel_rfl) (by kernel_rfl) (fun _ _ _ h => h) (Or.inl ⟨by rfl, ?hyr2_0⟩) (by assumption) ?restr2_0
    case hyr2_0 => (intro w hSw; (try dsimp only at hSw); go_simp; try (with_reducible rfl))
    simp only [Act.put, List.getElem_toArray, List.getElem_cons_succ, List.getElem_cons_zero, List.setIfInBounds_toArray, List.set_cons_zero, List.set_cons_succ]
    refine' wpAnyH_take (i := 1) (v := ?vr2_1) rfl (by kernel_rfl) (by kernel_rfl) (by kernel_rfl) (fun _ _ _ h => h) (Or.inl ⟨by rfl, ?hyr2_1⟩) (by assumption) ?restr2_1
    case hyr2_1 => (intro w hSw; (try dsimp only at hSw); go_simp; try (with_reducible rfl))
    simp only [Act.put, List.getElem_toArray, List.getElem_cons_succ, List.getElem_cons_zero, List.setIfInBounds_toArray, List.set_cons_zero, List.set_cons_succ]
    refine' wpAnyH_take (i := 2) (v := ?vr2_2) rfl (by kernel_rfl) (by kernel_rfl) (by kernel_rfl) (fun _ _ _ h => h) (Or.inl ⟨by rfl, ?hyr2_2⟩) (by assumption) ?restr2_2
    case hyr2_2 => (intro w hSw; (try dsimp only at hSw); go_simp; try (with_reducible rfl))
    simp only [Act.put, List.getElem_toArray, List.getElem_cons_succ, List.getElem_cons_zero, List.setIfInBounds_toArray, List.set_cons_zero, List.set_cons_succ]
    simp only [HA.out]
    refine' wpAnyH_take (i := 3) (v := ?vr2_3) rfl (by kernel_rfl) (by kernel_rfl) (by kernel_rfl) (fun _ _ _ h => h) (Or.inl ⟨by rfl, ?hyr2_3⟩) (by assumption) ?restr2_3
    case hyr2_3 => (intro w hSw; (try dsimp only at hSw); go_simp; try (with_reducible rfl))
    simp only [Act.put, List.getElem_toArray, List.getElem_cons_succ, List.getElem_cons_zero, List.setIfInBounds_toArray, List.set_cons_zero, List.set_cons_succ]
    have hw := A1.out
    refine' wpAnyH_take (i := 4) (v := ?vr2_4) rfl (by kernel_rfl) (by kernel_rfl) (by kernel_rfl) (fun _ _ _ h => h) (Or.inl ⟨by rfl, ?hyr2_4⟩) (by assumption) ?restr2_4
    case hyr2_4 => (intro w hSw; (try dsimp only at hSw); go_simp; try (with_reducible rfl))
    simp only [Act.put, List.getElem_toArray, List.getElem_cons_succ, List.getElem_cons_zero, List.setIfInBounds_toArray, List.set_cons_zero, List.set_cons_succ]
    clear hw
    refine' wpAnyH_take (i := 5) (v := ?vr2_5) rfl (by kernel_rfl) (by kernel_rfl) (by kernel_rfl) (fun _ _ _ h => h) (Or.inl ⟨by rfl, ?hyr2_5⟩) (by assumption) ?restr2_5
    case hyr2_5 => (intro w hSw; (try dsimp only at hSw); go_simp; try (with_reducible rfl))
    simp only [Act.put, List.getElem_toArray, List.getElem_cons_succ, List.getElem_cons_zero, List.setIfInBounds_toArray, List.set_cons_zero, List.set_cons_succ]
    refine' wpAnyH_take (i := 6) (v := ?vr2_6) rfl (by kernel_rfl) (by kernel_rfl) (by kernel_rfl) (fun _ _ _ h => h) (Or.inl ⟨by rfl, ?hyr2_6⟩) (by assumption) ?restr2_6
    case hyr2_6 => (intro w hSw; (try dsimp only at hSw); go_simp; try (with_reducible rfl))
    simp only [Act.put, List.getElem_toArray, List.getElem_cons_succ, List.getElem_cons_zero, List.setIfInBounds_toArray, List.set_cons_zero, List.set_cons_succ]
    refine' wpAnyH_take (i := 7) (v := ?vr2_7) rfl (by kernel_rfl) (by kernel_rfl) (by kernel_rfl) (fun _ _ _ h => h) (Or.inl ⟨by rfl, ?hyr2_7⟩) (by assumption) ?restr2_7
    case hyr2_7 => (intro w hSw; (try dsimp only at hSw); go_simp; try (with_reducible rfl))
    simp only [Act.put, List.getElem_toArray, List.getElem_cons_succ, List.getElem_cons_zero, List.setIfInBounds_toArray, List.set_cons_zero, List.set_cons_succ]
    simp only [HW.out]
    refine' wpAnyH_take (i := 8) (v := ?vr2_8) rfl (by kernel_rfl) (by kernel_rfl) (by kernel_rfl) (fun _ _ _ h => h) (Or.inl ⟨by rfl, ?hyr2_8⟩) (by assumption) ?restr2_8
    case hyr2_8 => (intro w hSw; (try dsimp only at hSw); go_simp; try (with_reducible rfl))
    simp only [Act.put, List.getElem_toArray, List.getElem_cons_succ, List.getElem_cons_zero, List.setIfInBounds_toArray, List.set_cons_zero, List.set_cons_succ]
    simp only [HC.out]
    have hw := A2.out
    refine' wpAnyH_take (i := 9) (v := ?vr2_9) rfl (by kernel_rfl) (by kernel_rfl) (by kernel_rfl) (fun _ _ _ h => h) (Or.inl ⟨by rfl, ?hyr2_9⟩) (by assumption) ?restr2_9
    case hyr2_9 => (intro w hSw; (try dsimp only at hSw); go_simp; try (with_reducible rfl))
    simp only [Act.put, List.getElem_toArray, List.getElem_cons_succ, List.getElem_cons_zero, List.setIfInBounds_toArray, List.set_cons_zero, List.set_cons_succ]
    clear hw
    refine' wpAnyH_take (i := 10) (v := ?vr2_10) rfl (by kernel_rfl) (by kernel_rfl) (by kernel_rfl) (fun _ _ _ h => h) (Or.inl ⟨by rfl, ?hyr2_10⟩) (by assumption) ?restr2_10
    case hyr2_10 => (intro w hSw; (try dsimp only at hSw); go_simp; try (with_reducible rfl))
    simp only [Act.put, List.getElem_toArray, List.getElem_cons_succ, List.getElem_cons_zero, List.setIfInBounds_toArray, List.set_cons_zero, List.set_cons_succ]
    refine wpAnyH_done (by kernel_rfl) ?_ _
    obtain ⟨HCE, HGE⟩ := hHeld
    have HCE := Lib.hid HCE
    have HGE := Lib.hid HGE
    go_wp2_with fail
    go_ret
    exact ⟨p2, rfl, by omega, HCE.out, HGE.out⟩
  · have q2 : q = 2 := by omega
    subst q2
    obtain ⟨i1, hi1⟩ : ∃ i1, i + 1 = i1 := ⟨_, rfl⟩
    have HW := Lib.hid (show IntKind.i64.wrap ((i : Int) + 1) = (i1 : Int) by rw [IntKind.wrap_i64]; omega)
    have him1 : i1 ≤ m := by omega
    obtain ⟨c, HC⟩ : ∃ c, Hid (t.extract i1 m = c) := ⟨_, Lib.hid rfl⟩
    have hcs : c.size = m - i1 := by rw [← HC.out]; simp [ByteArray.size_extract]; omega
    go_upto_region 10 with fail
    obtain ⟨p2, P2⟩ : ∃ p, Hid (a ++ c = p) := ⟨_, Lib.hid rfl⟩
    have hp2 := txt.add_size P2.out
    have A2 := Lib.hid (fun W => txt.add_run P2.out 1000 (by omega) (by decide) W)
    refine wp_region_held_drew (S := (fun v => Cur v B b (k + 4) A n cap zs ∧ w.grownBy v (some b))) (by kernel_rfl) ?_ (fun hHeld => ?_)
    · exact ⟨cur_below HC3.out (drewN_below w3 1), HG3.out.trans (grown_drew w3 _)⟩
    refine' wpAnyH_take (i := 0) (v := ?vr3_0) rfl (by kernel_rfl) (by kernel_rfl) (by kernel_rfl) (fun _ _ _ h => h) (Or.inl ⟨by rfl, ?hyr3_0⟩) (by assumption) ?restr3_0
    case hyr3_0 => (intro w hSw; (try dsimp only at hSw); go_simp; try (with_reducible rfl))
    simp only [Act.put, List.getElem_toArray, List.getElem_cons_succ, List.getElem_cons_zero, List.setIfInBounds_toArray, List.set_cons_zero, List.set_cons_succ]
    refine' wpAnyH_take (i := 1) (v := ?vr3_1) rfl (by kernel_rfl) (by kernel_rfl) (by kernel_rfl) (fun _ _ _ h => h) (Or.inl ⟨by rfl, ?hyr3_1⟩) (by assumption) ?restr3_1
    case hyr3_1 => (intro w hSw; (try dsimp only at hSw); go_simp; try (with_reducible rfl))
    simp only [Act.put, List.getElem_toArray, List.getElem_cons_succ, List.getElem_cons_zero, List.setIfInBounds_toArray, List.set_cons_zero, List.set_cons_succ]
    refine' wpAnyH_take (i := 2) (v := ?vr3_2) rfl (by kernel_rfl) (by kernel_rfl) (by kernel_rfl) (fun _ _ _ h => h) (Or.inl ⟨by rfl, ?hyr3_2⟩) (by assumption) ?restr3_2
    case hyr3_2 => (intro w hSw; (try dsimp only at hSw); go_simp; try (with_reducible rfl))
    simp only [Act.put, List.getElem_toArray, List.getElem_cons_succ, List.getElem_cons_zero, List.setIfInBounds_toArray, List.set_cons_zero, List.set_cons_succ]
    simp only [HA.out]
    refine' wpAnyH_take (i := 3) (v := ?vr3_3) rfl (by kernel_rfl) (by kernel_rfl) (by kernel_rfl) (fun _ _ _ h => h) (Or.inl ⟨by rfl, ?hyr3_3⟩) (by assumption) ?restr3_3
    case hyr3_3 => (intro w hSw; (try dsimp only at hSw); go_simp; try (with_reducible rfl))
    simp only [Act.put, List.getElem_toArray, List.getElem_cons_succ, List.getElem_cons_zero, List.setIfInBounds_toArray, List.set_cons_zero, List.set_cons_succ]
    refine' wpAnyH_take (i := 4) (v := ?vr3_4) rfl (by kernel_rfl) (by kernel_rfl) (by kernel_rfl) (fun _ _ _ h => h) (Or.inl ⟨by rfl, ?hyr3_4⟩) (by assumption) ?restr3_4
    case hyr3_4 => (intro w hSw; (try dsimp only at hSw); go_simp; try (with_reducible rfl))
    simp only [Act.put, List.getElem_toArray, List.getElem_cons_succ, List.getElem_cons_zero, List.setIfInBounds_toArray, List.set_cons_zero, List.set_cons_succ]
    refine' wpAnyH_take (i := 5) (v := ?vr3_5) rfl (by kernel_rfl) (by kernel_rfl) (by kernel_rfl) (fun _ _ _ h => h) (Or.inl ⟨by rfl, ?hyr3_5⟩) (by assumption) ?restr3_5
    case hyr3_5 => (intro w hSw; (try dsimp only at hSw); go_simp; try (with_reducible rfl))
    simp only [Act.put, List.getElem_toArray, List.getElem_cons_succ, List.getElem_cons_zero, List.setIfInBounds_toArray, List.set_cons_zero, List.set_cons_succ]
    simp only [HW.out]
    refine' wpAnyH_take (i := 6) (v := ?vr3_6) rfl (by kernel_rfl) (by kernel_rfl) (by kernel_rfl) (fun _ _ _ h => h) (Or.inl ⟨by rfl, ?hyr3_6⟩) (by assumption) ?restr3_6
    case hyr3_6 => (intro w hSw; (try dsimp only at hSw); go_simp; try (with_reducible rfl))
    simp only [Act.put, List.getElem_toArray, List.getElem_cons_succ, List.getElem_cons_zero, List.setIfInBounds_toArray, List.set_cons_zero, List.set_cons_succ]
    simp only [HC.out]
    have hw := A2.out
    refine' wpAnyH_take (i := 7) (v := ?vr3_7) rfl (by kernel_rfl) (by kernel_rfl) (by kernel_rfl) (fun _ _ _ h => h) (Or.inl ⟨by rfl, ?hyr3_7⟩) (by assumption) ?restr3_7
    case hyr3_7 => (intro w hSw; (try dsimp only at hSw); go_simp; try (with_reducible rfl))
    simp only [Act.put, List.getElem_toArray, List.getElem_cons_succ, List.getElem_cons_zero, List.setIfInBounds_toArray, List.set_cons_zero, List.set_cons_succ]
    clear hw
    refine' wpAnyH_take (i := 8) (v := ?vr3_8) rfl (by kernel_rfl) (by kernel_rfl) (by kernel_rfl) (fun _ _ _ h => h) (Or.inl ⟨by rfl, ?hyr3_8⟩) (by assumption) ?restr3_8
    case hyr3_8 => (intro w hSw; (try dsimp only at hSw); go_simp; try (with_reducible rfl))
    simp only [Act.put, List.getElem_toArray, List.getElem_cons_succ, List.getElem_cons_zero, List.setIfInBounds_toArray, List.set_cons_zero, List.set_cons_succ]
    refine wpAnyH_done (by kernel_rfl) ?_ _
    obtain ⟨HCE, HGE⟩ := hHeld
    have HCE := Lib.hid HCE
    have HGE := Lib.hid HGE
    go_wp2_with fail
    go_ret
    exact ⟨p2, rfl, by omega, HCE.out, HGE.out⟩
/-- a drawn text -/
def TPo (w : World) (e : Ending) (w' : World) : Prop := ∃ s : ByteArray, e = .returned (.string s) ∧ s.size ≤ 1000 ∧ Below w.heap.size w w'
set_option maxHeartbeats 4000000 in
set_option maxRecDepth 100000 in
theorem spoilt_nil (B b k : Nat) (A : Option Addr) (n cap : Nat) (zs : List UInt8) (w : World) (h : Hid (Cur w B b k A n cap zs)) :
    Calls Tryz.prog 34 #[.pointer (some ⟨b, 0, none⟩), .string ⟨#[]⟩, .string ⟨#[48, 32, 46, 43, 45, 98, 49]⟩] w (SPo B b (k + 4) A n cap zs 1 w) := by
  go_enter Tryz.func34, Tryz.ntmps34
  go_wp2_with fail
  go_ret
  exact ⟨_, rfl, by simp [ByteArray.size_extract]; omega, cur_more h.out _ (by omega), ⟨rfl, rfl, rfl, Nat.le_refl _, fun _ _ _ => rfl⟩⟩
theorem spoilt_all (B b k : Nat) (A : Option Addr) (n cap : Nat) (zs : List UInt8) (t : ByteArray) (w : World) (hk : k ≤ 60000) (h : Hid (Cur w B b k A n cap zs)) (ht : t.size ≤ 600) :
    Calls Tryz.prog 34 #[.pointer (some ⟨b, 0, none⟩), .string t, .string ⟨#[48, 32, 46, 43, 45, 98, 49]⟩] w (SPo B b (k + 4) A n cap zs 601 w) := by
  by_cases q : t.size = 0
  · have e : t = ⟨#[]⟩ := ByteArray.ext (Array.eq_empty_of_size_eq_zero q)
    rw [e]
    refine (spoilt_nil B b k A n cap zs w h).mono ?_
    rintro e w1 ⟨s, h1, h2, h3⟩
    exact ⟨s, h1, by omega, h3⟩
  · refine (spoilt_any B b k A n cap zs t ⟨#[48, 32, 46, 43, 45, 98, 49]⟩ t.size w hk h (Lib.hid rfl) (by omega) ht (Lib.hid (by rfl))).mono ?_
    rintro e w1 ⟨s, h1, h2, h3⟩
    exact ⟨s, h1, by omega, h3⟩
end Go.Proofs.YtnlljdepcldibaaGreatDoor.spb

namespace Go.Proofs.YtnlljdepcldibaaGreatDoor.ent
open Go.RowKit
open reads base ty lg en pow txt strmath iterc readc ntx
set_option linter.unusedVariables false
set_option linter.unusedSimpArgs false

theorem join_no (c d : UInt8) (hcd : c ≠ d) : ∀ ps : List ByteArray, (∀ p ∈ ps, c ∉ p.data.toList) → c ∉ joinL d ps
  | [], _ => by simp [joinL]
  | [p], h => by simpa [joinL] using h p (by simp)
  | p :: q :: r, h => by
    have ih := join_no c d hcd (q :: r) (fun x hx => h x (List.mem_cons_of_mem _ hx))
    show c ∉ p.data.toList ++ d :: joinL d (q :: r)
    intro k
    rcases List.mem_append.1 k with k | k
    · exact h p (by simp) k
    · rcases List.mem_cons.1 k with k | k
      · exact hcd k
      · exact ih k
theorem etx_nl {x : En} (hx : okEn x = true) : (10 : UInt8) ∉ (etx x).data.toList := by
  rw [etx_list]
  exact join_no 10 32 (by decide) _ (ew_no 10 (by decide) (by decide) (by decide) (by decide) hx)
theorem scan_book (f : ByteArray → En × Bool) (hf : ∀ t, PT t (f t)) : ∀ (ts : List En) (i : Nat) (acc : List En), (∀ t ∈ ts, okEn t = true) → i + ts.length ≤ 12 → scan f i (pcs 10 (btx ts).data.toList) acc = (acc ++ ts, 0, true)
  | [], i, acc, _, _ => by rw [scan_end f i (btx []) acc (by simp [btx, btL]), if_pos (by rfl), List.append_nil]
  | x :: a, i, acc, h, hi => by
    have hx := h x (by simp)
    have e : (btx (x :: a)).data.toList = (etx x).data.toList ++ 10 :: (btx a).data.toList := by simp [btx, btL]
    have k : f (etx x) = (x, true) := pt_yes (hf (etx x)) ⟨hx, rfl⟩
    have hl : (x :: a).length = a.length + 1 := rfl
    rw [scan_hit f i (btx (x :: a)) (etx x) (btx a) acc e (etx_nl hx), k, if_pos ⟨rfl, by omega⟩, scan_book f hf a (i + 1) (acc ++ [x]) (fun t ht => h t (List.mem_cons_of_mem _ ht)) (by omega)]
    simp
/-- a book's text, read, is the book -/
theorem pb_book {ts : List En} (h : goodEn ts = true) : PB (btx ts) (ts, 0, true) :=
  ⟨fun t => (pt_ex t).choose, fun t => (pt_ex t).choose_spec, by rw [scan_book _ (fun t => (pt_ex t).choose_spec) ts 0 [] (goodEn_all h) (by have := goodEn_len h; omega)]; rfl⟩
theorem scan_told (f : ByteArray → En × Bool) : ∀ (ls : List ByteArray) (i : Nat) (acc : List En), (scan f i ls acc).2.2 = decide ((scan f i ls acc).2.1 = 0)
  | [], i, acc => by unfold scan; simp
  | [l], i, acc => by
    unfold scan
    split
    · simp
    · simp; omega
  | l :: q :: ls, i, acc => by
    unfold scan
    split
    · exact scan_told f (q :: ls) (i + 1) _
    · simp; omega
/-- the word is told by the number -/
theorem pb_told {s : ByteArray} {xs : List En} {ln : Int} {ok : Bool} (h : PB s (xs, ln, ok)) : ok = decide (ln = 0) := by
  obtain ⟨f, -, hs⟩ := h
  have k := scan_told f (pcs 10 s.data.toList) 0 []
  rw [hs] at k
  exact k
theorem ln_form (x : En) {G : Bool} (h : okEn x = G) : ∃ s : ByteArray, ansLn x = .tuple #[.string s, .bool G] ∧ s.size ≤ 40 ∧ (G = true → IsET s x) := by
  unfold ansLn
  rw [h]
  cases G
  · exact ⟨⟨#[]⟩, by simp, by decide, fun c => by cases c⟩
  · exact ⟨etx x, by simp, etx_size h, fun _ => ⟨h, rfl⟩⟩
theorem bt_form (ts : List En) {G : Bool} (h : goodEn ts = G) : ∃ s : ByteArray, ansBt ts = .tuple #[.string s, .bool G] ∧ s.size ≤ 500 ∧ (G = true → PB s (ts, 0, true)) := by
  unfold ansBt
  rw [h]
  cases G
  · exact ⟨⟨#[]⟩, by simp, by decide, fun c => by cases c⟩
  · exact ⟨btx ts, by simp, by have := btx_size (goodEn_all h); have := goodEn_len h; omega, fun _ => pb_book h⟩
end Go.Proofs.YtnlljdepcldibaaGreatDoor.ent

namespace Go.Proofs.YtnlljdepcldibaaGreatDoor.dre
open Go.RowKit
open reads base curs curd cure ty en
set_option linter.unusedVariables false
set_option linter.unusedSimpArgs false

/-- a drawn book, behind its function -/
def DBPo (w : World) (e : Ending) (w' : World) : Prop := ∃ (v : Value) (L : Nat) (ts : List En), e = .returned v ∧ w'.ownsRow w.heap.size 25 6 v L (flatEn ts) ∧ ts.length = L ∧ L ≤ 13 ∧ Below w.heap.size w w'
def DEPo (w : World) (e : Ending) (w' : World) : Prop := ∃ t : En, e = .returned (.agg #[.int .i64 t.frm, .int .i64 t.to_, .int .i64 t.tape, .int .i64 t.comp, .int .i64 t.slope, .bool t.back]) ∧ Below w.heap.size w w'
set_option maxHeartbeats 4000000 in
set_option maxRecDepth 100000 in
theorem bookText_draw (A : Option Addr) (n cap : Nat) (zs : List UInt8) (w : World) (h : Hid (curs.Code w A n zs)) : Calls Tryz.prog 12 #[.slice A n cap] w (DBPo w) := by
  have HC0 := Lib.hid (cur_new cap h.out)
  go_enter Tryz.func12, Tryz.ntmps12
  go_wp2_with fail
  refine (book_any w.heap.size w.heap.size 0 A n cap zs _ (by omega) HC0).mono ?_
  rintro e w1 ⟨v, L, ts, rfl, hl, hG⟩
  have HG := Lib.hid hG
  clear hG
  go_wp2_with fail
  go_ret
  exact ⟨v, L, ts, rfl, own_base (by simp) HG.out.2.2.1, HG.out.2.2.2.1, hl, low HG.out.2.1⟩
set_option maxHeartbeats 4000000 in
set_option maxRecDepth 100000 in
theorem isEntry_draw (A : Option Addr) (n cap : Nat) (zs : List UInt8) (w : World) (h : Hid (curs.Code w A n zs)) : Calls Tryz.prog 19 #[.slice A n cap] w (DEPo w) := by
  obtain ⟨W0, HW0, hs0, HB0, HR⟩ : ∃ W0, Hid (w.alloc (.cells #[.int .i64 0, .int .i64 0, .int .i64 0, .int .i64 0, .int .i64 0, .bool false] 25) = W0) ∧ W0.heap.size = w.heap.size + 1 ∧ Hid (Below w.heap.size w W0) ∧ Hid (Blk W0 w.heap.size 25 #[.int .i64 0, .int .i64 0, .int .i64 0, .int .i64 0, .int .i64 0, .bool false]) :=
    ⟨_, Lib.hid rfl, by simp, Lib.hid ((Below.refl w.heap.size w).alloc (Nat.le_refl _) _), Lib.hid (Blk.new w _ _)⟩
  have HC0 := Lib.hid (cur_new cap (h.out.below HB0.out))
  rw [hs0] at HC0
  go_enter Tryz.func19, Tryz.ntmps19
  go_upto_region 1 with fail
  rw [HW0.out]
  clear HW0
  go_wp2_with fail
  try rw [hs0]
  refine (entry_any (w.heap.size + 1) (w.heap.size + 1) 0 A n cap zs _ (by omega) HC0).mono ?_
  rintro e w1 ⟨t, rfl, hC, hg⟩
  have hsz : w.heap.size ≤ W0.heap.size := by omega
  have HX := Lib.hid (show Blk w1 w.heap.size 25 #[.int .i64 0, .int .i64 0, .int .i64 0, .int .i64 0, .int .i64 0, .bool false] from (HR.out.alloc _).grown hg (by intro e; injection e with e; omega))
  have HB := Lib.hid (show Below w.heap.size w w1 from (HB0.out.alloc hsz _).grown hg (by simp; omega) (fun k hk => by injection hk with hk; omega))
  clear hC hg HC0 HR HB0 hs0 hsz
  have HF := Lib.hid (show Below w.heap.size w ((((((w1.setCell ⟨w.heap.size, 0, none⟩ (.int .i64 t.frm)).setCell ⟨w.heap.size, 1, none⟩ (.int .i64 t.to_)).setCell ⟨w.heap.size, 2, none⟩ (.int .i64 t.tape)).setCell ⟨w.heap.size, 3, none⟩ (.int .i64 t.comp)).setCell ⟨w.heap.size, 4, none⟩ (.int .i64 t.slope)).setCell ⟨w.heap.size, 5, none⟩ (.bool t.back)) from ((((((HB.out.setCell (Nat.le_refl _) _).setCell (Nat.le_refl _) _).setCell (Nat.le_refl _) _).setCell (Nat.le_refl _) _).setCell (Nat.le_refl _) _).setCell (Nat.le_refl _) _))
  obtain ⟨d0, d1, d2, d3, d4, d5, dl⟩ := (⟨HX.out.cell 0, HX.out.cell 1, HX.out.cell 2, HX.out.cell 3, HX.out.cell 4, HX.out.cell 5, HX.out.lt⟩ : w1.cell? ⟨w.heap.size, 0, none⟩ = some (.int .i64 0) ∧ w1.cell? ⟨w.heap.size, 1, none⟩ = some (.int .i64 0) ∧ w1.cell? ⟨w.heap.size, 2, none⟩ = some (.int .i64 0) ∧ w1.cell? ⟨w.heap.size, 3, none⟩ = some (.int .i64 0) ∧ w1.cell? ⟨w.heap.size, 4, none⟩ = some (.int .i64 0) ∧ w1.cell? ⟨w.heap.size, 5, none⟩ = some (.bool false) ∧ w.heap.size < w1.heap.size)
  obtain ⟨e0, e1, e2, e3, e4, e5⟩ := (⟨HX.out.frozen 0, HX.out.frozen 1, HX.out.frozen 2, HX.out.frozen 3, HX.out.frozen 4, HX.out.frozen 5⟩ : w1.frozen? ⟨w.heap.size, 0, none⟩ = false ∧ w1.frozen? ⟨w.heap.size, 1, none⟩ = false ∧ w1.frozen? ⟨w.heap.size, 2, none⟩ = false ∧ w1.frozen? ⟨w.heap.size, 3, none⟩ = false ∧ w1.frozen? ⟨w.heap.size, 4, none⟩ = false ∧ w1.frozen? ⟨w.heap.size, 5, none⟩ = false)
  go_wp2_with fail
  refine bodyPost_ret (v := .agg #[.int .i64 t.frm, .int .i64 t.to_, .int .i64 t.tape, .int .i64 t.comp, .int .i64 t.slope, .bool t.back]) (by simp [results, Tryz.results19, go_sem, *]) rfl ⟨t, rfl, HF.out⟩
set_option maxHeartbeats 4000000 in
set_option maxRecDepth 100000 in
theorem entryLine_draw (A : Option Addr) (n cap : Nat) (zs : List UInt8) (w : World) (h : Hid (curs.Code w A n zs)) : Calls Tryz.prog 5 #[.slice A n cap] w (DEPo w) := by
  obtain ⟨W0, HW0, HB0, HR⟩ : ∃ W0, Hid (w.alloc (.cells #[.int .i64 0, .int .i64 0, .int .i64 0, .int .i64 0, .int .i64 0, .bool false] 25) = W0) ∧ Hid (Below w.heap.size w W0) ∧ Hid (Blk W0 w.heap.size 25 #[.int .i64 0, .int .i64 0, .int .i64 0, .int .i64 0, .int .i64 0, .bool false]) :=
    ⟨_, Lib.hid rfl, Lib.hid ((Below.refl w.heap.size w).alloc (Nat.le_refl _) _), Lib.hid (Blk.new w _ _)⟩
  have HC0 := Lib.hid (h.out.below HB0.out)
  go_enter Tryz.func5, Tryz.ntmps5
  go_upto_region 1 with fail
  rw [HW0.out]
  clear HW0
  go_wp2_with fail
  refine (isEntry_draw A n cap zs _ HC0).mono ?_
  rintro e w1 ⟨t, rfl, b⟩
  have HX := Lib.hid (show Blk w1 w.heap.size 25 #[.int .i64 0, .int .i64 0, .int .i64 0, .int .i64 0, .int .i64 0, .bool false] from HR.out.below b HR.out.lt)
  have HB := Lib.hid (show Below w.heap.size w w1 from HB0.out.trans (b.mono HB0.out.size))
  clear b HC0 HR HB0
  have HF := Lib.hid (show Below w.heap.size w ((((((w1.setCell ⟨w.heap.size, 0, none⟩ (.int .i64 t.frm)).setCell ⟨w.heap.size, 1, none⟩ (.int .i64 t.to_)).setCell ⟨w.heap.size, 2, none⟩ (.int .i64 t.tape)).setCell ⟨w.heap.size, 3, none⟩ (.int .i64 t.comp)).setCell ⟨w.heap.size, 4, none⟩ (.int .i64 t.slope)).setCell ⟨w.heap.size, 5, none⟩ (.bool t.back)) from ((((((HB.out.setCell (Nat.le_refl _) _).setCell (Nat.le_refl _) _).setCell (Nat.le_refl _) _).setCell (Nat.le_refl _) _).setCell (Nat.le_refl _) _).setCell (Nat.le_refl _) _))
  obtain ⟨d0, d1, d2, d3, d4, d5, dl⟩ := (⟨HX.out.cell 0, HX.out.cell 1, HX.out.cell 2, HX.out.cell 3, HX.out.cell 4, HX.out.cell 5, HX.out.lt⟩ : w1.cell? ⟨w.heap.size, 0, none⟩ = some (.int .i64 0) ∧ w1.cell? ⟨w.heap.size, 1, none⟩ = some (.int .i64 0) ∧ w1.cell? ⟨w.heap.size, 2, none⟩ = some (.int .i64 0) ∧ w1.cell? ⟨w.heap.size, 3, none⟩ = some (.int .i64 0) ∧ w1.cell? ⟨w.heap.size, 4, none⟩ = some (.int .i64 0) ∧ w1.cell? ⟨w.heap.size, 5, none⟩ = some (.bool false) ∧ w.heap.size < w1.heap.size)
  obtain ⟨e0, e1, e2, e3, e4, e5⟩ := (⟨HX.out.frozen 0, HX.out.frozen 1, HX.out.frozen 2, HX.out.frozen 3, HX.out.frozen 4, HX.out.frozen 5⟩ : w1.frozen? ⟨w.heap.size, 0, none⟩ = false ∧ w1.frozen? ⟨w.heap.size, 1, none⟩ = false ∧ w1.frozen? ⟨w.heap.size, 2, none⟩ = false ∧ w1.frozen? ⟨w.heap.size, 3, none⟩ = false ∧ w1.frozen? ⟨w.heap.size, 4, none⟩ = false ∧ w1.frozen? ⟨w.heap.size, 5, none⟩ = false)
  go_wp2_with fail
  refine bodyPost_ret (v := .agg #[.int .i64 t.frm, .int .i64 t.to_, .int .i64 t.tape, .int .i64 t.comp, .int .i64 t.slope, .bool t.back]) (by simp [results, Tryz.results5, go_sem, *]) rfl ⟨t, rfl, HF.out⟩
theorem lineM (x : En) (v : Value) (h : Hid (ent.ansLn x = v)) (w : World) : Calls Tryz.prog 7 #[.agg #[.int .i64 x.frm, .int .i64 x.to_, .int .i64 x.tape, .int .i64 x.comp, .int .i64 x.slope, .bool x.back]] w (APost v w) := by rw [← h.out]; exact ent.entryLine_model x w
theorem textM (A : Option Addr) (n cap : Nat) (ts : List En) (v : Value) (h : Hid (ent.ansBt ts = v)) (w : World) (hn : n ≤ 2000000) (hts : Hid (EnAt w w.heap.size A n ts)) : Calls Tryz.prog 14 #[.slice A n cap] w (APost v w) := by rw [← h.out]; exact ent.bookText_model A n cap ts w hn hts
/-- a drawn text -/
def TPo (w : World) (e : Ending) (w' : World) : Prop := ∃ s : ByteArray, e = .returned (.string s) ∧ s.size ≤ 1000 ∧ Below w.heap.size w w'
set_option maxHeartbeats 4000000 in
set_option maxRecDepth 100000 in
theorem parseEntry_draw (A : Option Addr) (n cap : Nat) (zs : List UInt8) (w : World) (h : Hid (curs.Code w A n zs)) : Calls Tryz.prog 10 #[.slice A n cap] w (TPo w) := by
  have HC0 := Lib.hid (cur_new cap h.out)
  go_enter Tryz.func10, Tryz.ntmps10
  go_wp2_with fail
  refine (entry_any w.heap.size w.heap.size 0 A n cap zs _ (by omega) HC0).mono ?_
  rintro e w1 ⟨t, rfl, hC, hg⟩
  have HB1 := Lib.hid (low hg)
  have HC1 := Lib.hid hC
  clear hC hg HC0
  obtain ⟨G, hG⟩ : ∃ G, okEn t = G := ⟨_, rfl⟩
  obtain ⟨s, hs, hz, -⟩ := ent.ln_form t hG
  have HS := Lib.hid hs
  clear hs hG
  go_wp2_with fail
  refine (lineM t _ HS _).mono ?_
  rintro e w2 ⟨rfl, b⟩
  have HB2 := Lib.hid (HB1.out.trans (b.mono HB1.out.size))
  have HC2 := Lib.hid (cur_below HC1.out b)
  clear b HB1 HC1
  go_wp2_with fail
  refine (one_any w.heap.size w.heap.size (0 + 10) A n cap zs _ 4 (by omega) HC2.out (by decide) (by decide)).mono ?_
  rintro e w3 ⟨q, rfl, hC, hg⟩
  have HC3 := Lib.hid hC
  have HB3 := Lib.hid (HB2.out.grown hg HB2.out.size (fun k hk => by injection hk with hk; omega))
  clear hC hg HB2 HC2
  cases q
  · go_wp2_with fail
    go_ret
    exact ⟨s, rfl, by omega, HB3.out⟩
  · go_wp2_with fail
    refine (spb.spoilt_all w.heap.size w.heap.size (0 + 10 + 1) A n cap zs s _ (by omega) HC3 (by omega)).mono ?_
    rintro e w4 ⟨z, rfl, hz2, hC, hg⟩
    have HB4 := Lib.hid (HB3.out.grown hg HB3.out.size (fun k hk => by injection hk with hk; omega))
    clear hC hg HB3 HC3
    go_wp2_with fail
    go_ret
    exact ⟨z, rfl, by omega, HB4.out⟩
set_option maxHeartbeats 4000000 in
set_option maxRecDepth 100000 in
theorem parseBook_draw (A : Option Addr) (n cap : Nat) (zs : List UInt8) (w : World) (h : Hid (curs.Code w A n zs)) : Calls Tryz.prog 17 #[.slice A n cap] w (TPo w) := by
  have HC0 := Lib.hid (cur_new cap h.out)
  go_enter Tryz.func17, Tryz.ntmps17
  go_wp2_with fail
  refine (book_any w.heap.size w.heap.size 0 A n cap zs _ (by omega) HC0).mono ?_
  rintro e w1 ⟨v, L, ts, rfl, hl, hG⟩
  obtain ⟨A', c, rfl⟩ := row_slice hG.2.2.1
  have HB1 := Lib.hid (low hG.2.1)
  have HC1 := Lib.hid hG.1
  have HTS := Lib.hid (own_En hG.2.2.2.1 hG.2.2.1)
  clear hG HC0
  obtain ⟨G, hG⟩ : ∃ G, goodEn ts = G := ⟨_, rfl⟩
  obtain ⟨s, hs, hz, -⟩ := ent.bt_form ts hG
  have HS := Lib.hid hs
  clear hs hG
  go_wp2_with fail
  refine (textM A' L c ts _ HS _ (by omega) HTS).mono ?_
  rintro e w2 ⟨rfl, b⟩
  have HB2 := Lib.hid (HB1.out.trans (b.mono HB1.out.size))
  have HC2 := Lib.hid (cur_below HC1.out b)
  clear b HB1 HC1 HTS
  go_wp2_with fail
  refine (pick_any w.heap.size w.heap.size (0 + 300) A n cap zs _ 5 (by omega) HC2.out (by decide) (by decide)).mono ?_
  rintro e w3 ⟨r, rfl, hr, hC, hg⟩
  have HC3 := Lib.hid hC
  have HB3 := Lib.hid (HB2.out.grown hg HB2.out.size (fun k hk => by injection hk with hk; omega))
  clear hC hg HB2 HC2
  by_cases q0 : r = 0
  · subst q0
    go_wp2_with fail
    refine (spb.spoilt_all w.heap.size w.heap.size (0 + 300 + 1) A n cap zs s _ (by omega) HC3 (by omega)).mono ?_
    rintro e w4 ⟨z, rfl, hz2, hC, hg⟩
    have HB4 := Lib.hid (HB3.out.grown hg HB3.out.size (fun k hk => by injection hk with hk; omega))
    clear hC hg HB3 HC3
    go_wp2_with fail
    go_ret
    exact ⟨z, rfl, by omega, HB4.out⟩
  have q0' : ((r : Int) == 0) = false := by rw [beq_eq_false_iff_ne]; omega
  by_cases q1 : r = 1
  · subst q1
    obtain ⟨z, hz2⟩ : ∃ z, s ++ (⟨#[120]⟩ : ByteArray) = z := ⟨_, rfl⟩
    have hl2 := txt.add_size hz2
    have e1 : (⟨#[120]⟩ : ByteArray).size = 1 := rfl
    have a1 : ∀ W : World, (Op.stringOp .add s ⟨#[120]⟩).run Tryz.prog W = .ok (.string z) W := fun W => txt.add_run hz2 2000 (by omega) (by decide) W
    clear hz2
    go_wp2_with fail
    go_ret
    exact ⟨z, rfl, by omega, HB3.out⟩
  have q1' : ((r : Int) == 1) = false := by rw [beq_eq_false_iff_ne]; omega
  by_cases q2 : r = 2
  · subst q2
    obtain ⟨z, hz2⟩ : ∃ z, s ++ (⟨#[48, 32, 49, 32, 49, 46, 48, 32, 48, 32, 48, 10]⟩ : ByteArray) = z := ⟨_, rfl⟩
    have hl2 := txt.add_size hz2
    have e1 : (⟨#[48, 32, 49, 32, 49, 46, 48, 32, 48, 32, 48, 10]⟩ : ByteArray).size = 12 := rfl
    have a1 : ∀ W : World, (Op.stringOp .add s ⟨#[48, 32, 49, 32, 49, 46, 48, 32, 48, 32, 48, 10]⟩).run Tryz.prog W = .ok (.string z) W := fun W => txt.add_run hz2 2000 (by omega) (by decide) W
    clear hz2
    go_wp2_with fail
    go_ret
    exact ⟨z, rfl, by omega, HB3.out⟩
  have q2' : ((r : Int) == 2) = false := by rw [beq_eq_false_iff_ne]; omega
  go_wp2_with fail
  go_ret
  exact ⟨s, rfl, by omega, HB3.out⟩
end Go.Proofs.YtnlljdepcldibaaGreatDoor.dre

namespace Go.Proofs.YtnlljdepcldibaaGreatDoor.ent
open Go.RowKit
open reads base ty lg en pow txt strmath iterc readc ntx
set_option linter.unusedVariables false
set_option linter.unusedSimpArgs false

set_option maxHeartbeats 4000000 in
set_option maxRecDepth 100000 in
theorem parseEntry_model (s : ByteArray) (q : En × Bool) (w : World) (hs : s.size ≤ 1048576) (hr : Hid (PT s q)) : Calls Tryz.prog 11 #[.string s] w (APost (ptV q) w) := by
  obtain ⟨x, ok⟩ := q
  have HB0 := Lib.hid (RE.start w)
  go_enter Tryz.func11, Tryz.ntmps11
  go_wp2_with fail
  refine (parseE_model s (x, ok) _ hs hr).mono ?_
  rintro e w1 ⟨rfl, b⟩
  rw [ptV_mk]
  have HB1 := Lib.hid (HB0.out.step b)
  clear b HB0
  go_upto_region 2 with fail
  obtain ⟨X, HX⟩ : ∃ X, Hid (w1.heap.size = X) := ⟨_, Lib.hid rfl⟩
  obtain ⟨W2, HW2⟩ : ∃ W, Hid (w1.alloc (.cells #[.int .i64 x.frm, .int .i64 x.to_, .int .i64 x.tape, .int .i64 x.comp, .int .i64 x.slope, .bool x.back] 25) = W) := ⟨_, Lib.hid rfl⟩
  have HBX := Lib.hid (show Blk W2 X 25 #[.int .i64 x.frm, .int .i64 x.to_, .int .i64 x.tape, .int .i64 x.comp, .int .i64 x.slope, .bool x.back] by rw [← HW2.out, ← HX.out]; exact Blk.new _ _ _)
  have HB2 := Lib.hid (show RE w W2 by rw [← HW2.out]; exact HB1.out.step ((Below.refl _ _).alloc (Nat.le_refl _) _))
  rw [HW2.out, HX.out]
  clear HW2 HX HB1
  obtain ⟨x0, x1, x2, x3, x4, x5, xl⟩ := (⟨HBX.out.cell 0, HBX.out.cell 1, HBX.out.cell 2, HBX.out.cell 3, HBX.out.cell 4, HBX.out.cell 5, HBX.out.lt⟩ : W2.cell? ⟨X, 0, none⟩ = some (.int .i64 x.frm) ∧ W2.cell? ⟨X, 1, none⟩ = some (.int .i64 x.to_) ∧ W2.cell? ⟨X, 2, none⟩ = some (.int .i64 x.tape) ∧ W2.cell? ⟨X, 3, none⟩ = some (.int .i64 x.comp) ∧ W2.cell? ⟨X, 4, none⟩ = some (.int .i64 x.slope) ∧ W2.cell? ⟨X, 5, none⟩ = some (.bool x.back) ∧ X < W2.heap.size)
  obtain ⟨z0, z1, z2, z3, z4, z5, f0, f1, f2, f3, f4, f5, hz⟩ := HB2.out.zs
  go_wp2_with fail
  refine bodyPost_ret (v := .tuple #[.agg #[.int .i64 x.frm, .int .i64 x.to_, .int .i64 x.tape, .int .i64 x.comp, .int .i64 x.slope, .bool x.back], .bool ok]) (by simp [results, Tryz.results11, go_sem, *]) rfl ⟨rfl, ?_⟩
  exact HB2.out.put _ _ _ _ _ _
end Go.Proofs.YtnlljdepcldibaaGreatDoor.ent

namespace Go.Proofs.YtnlljdepcldibaaGreatDoor.bkw
open Go.RowKit
open reads base curs curd ty lg en pow pcrd dre ent
set_option linter.unusedVariables false
set_option linter.unusedSimpArgs false

/-- where the law stands: nothing old has turned, the code and the variables read -/
def St (w : World) (A : Option Addr) (n : Nat) (zs : List UInt8) (v : World) : Prop := Below w.heap.size w v ∧ curs.Code v A n zs ∧ VarsP v
theorem St.step {w v v' : World} {A : Option Addr} {n : Nat} {zs : List UInt8} (h : St w A n zs v) (hb : Below v.heap.size v v') : St w A n zs v' := ⟨h.1.trans (hb.mono h.1.size), h.2.1.below hb, h.2.2.below hb⟩
theorem St.alloc {w v : World} {A : Option Addr} {n : Nat} {zs : List UInt8} (h : St w A n zs v) (o : Obj) : St w A n zs (v.alloc o) := h.step ((Below.refl _ _).alloc (Nat.le_refl _) o)
theorem lineI (x : En) (v : Value) (h : Hid (ansLn x = v)) (w : World) (hT : Hid (TabP w)) : Calls Tryz.prog 6 #[.agg #[.int .i64 x.frm, .int .i64 x.to_, .int .i64 x.tape, .int .i64 x.comp, .int .i64 x.slope, .bool x.back]] w (APost v w) := by rw [← h.out]; exact entryLine_impl x w hT
theorem textI (A : Option Addr) (n cap : Nat) (ts : List En) (v : Value) (h : Hid (ansBt ts = v)) (w : World) (hn : n ≤ 2000000) (hts : Hid (EnAt w w.heap.size A n ts)) (hT : Hid (TabP w)) : Calls Tryz.prog 13 #[.slice A n cap] w (APost v w) := by rw [← h.out]; exact bookText_impl A n cap ts w hn hts hT
theorem isI (x : En) (G : Bool) (h : Hid (okEn x = G)) (w : World) : Calls Tryz.prog 8 #[.agg #[.int .i64 x.frm, .int .i64 x.to_, .int .i64 x.tape, .int .i64 x.comp, .int .i64 x.slope, .bool x.back]] w (BPost G w) := by rw [← h.out]; exact eni.isEntry_impl x w
theorem peI (s : ByteArray) (x : En) (ok : Bool) (w : World) (hs : s.size ≤ 1048576) (hr : Hid (PT s (x, ok))) (hV : Hid (VarsP w)) : Calls Tryz.prog 9 #[.string s] w (APost (.tuple #[.agg #[.int .i64 x.frm, .int .i64 x.to_, .int .i64 x.tape, .int .i64 x.comp, .int .i64 x.slope, .bool x.back], .bool ok]) w) := parseE_impl s (x, ok) w hs hr hV
theorem peM (s : ByteArray) (x : En) (ok : Bool) (w : World) (hs : s.size ≤ 1048576) (hr : Hid (PT s (x, ok))) : Calls Tryz.prog 11 #[.string s] w (APost (.tuple #[.agg #[.int .i64 x.frm, .int .i64 x.to_, .int .i64 x.tape, .int .i64 x.comp, .int .i64 x.slope, .bool x.back], .bool ok]) w) := parseEntry_model s (x, ok) w hs hr
/-- what ParseBook answers, in letters -/
def KPo (xs : List En) (ln : Int) (ok : Bool) (N : Nat) (w : World) (e : Ending) (w' : World) : Prop :=
  ∃ A c, e = .returned (.tuple #[.slice A N c, .int .i64 ln, .bool ok]) ∧ w'.ownsRow w.heap.size 25 6 (.slice A N c) N (flatEn xs) ∧ Below w.heap.size w w'
theorem kpo {xs : List En} {ln : Int} {ok : Bool} {N : Nat} {w : World} (hN : Hid (xs.length = N)) {e : Ending} {w' : World} (h : BPo (xs, ln, ok) w e w') : KPo xs ln ok N w e w' := by
  obtain ⟨v, h1, h2, h3⟩ := h
  have h2' : w'.ownsRow w.heap.size 25 6 v xs.length (flatEn xs) := h2
  rw [hN.out] at h2'
  obtain ⟨A, c, rfl⟩ := row_slice h2'
  exact ⟨A, c, h1, h2', h3⟩
theorem pbI (s : ByteArray) (xs : List En) (ln : Int) (ok : Bool) (N : Nat) (w : World) (hN : Hid (xs.length = N)) (hs : s.size ≤ 1048576) (hr : Hid (PB s (xs, ln, ok))) (hV : Hid (VarsP w)) : Calls Tryz.prog 15 #[.string s] w (KPo xs ln ok N w) := (parseBook_impl s (xs, ln, ok) w hs hr hV).mono fun e w' h => kpo hN h
theorem pbM (s : ByteArray) (xs : List En) (ln : Int) (ok : Bool) (N : Nat) (w : World) (hN : Hid (xs.length = N)) (hs : s.size ≤ 1048576) (hr : Hid (PB s (xs, ln, ok))) : Calls Tryz.prog 18 #[.string s] w (KPo xs ln ok N w) := (parseBook_model s (xs, ln, ok) w hs hr).mono fun e w' h => kpo hN h
set_option maxHeartbeats 32000000 in
set_option maxRecDepth 100000 in
theorem walk (A : Option Addr) (n cap : Nat) (zs : List UInt8) (w : World) (hn : n ≤ 65536) (hS : Hid (St w A n zs w)) :
    Calls Tryz.prog 3 #[.slice A n cap] w (LawPost w) := by
  have HB := Lib.hid (rs.big_no A n cap w hn)
  clear hn
  go_enter Tryz.func3, Tryz.ntmps3
  go_wp2_with fail
  refine HB.out.mono ?_
  rintro e w' ⟨rfl, rfl⟩
  clear HB
  go_wp2_with fail
  refine (entryLine_draw A n cap zs _ (Lib.hid hS.out.2.1)).mono ?_
  rintro e W1 ⟨t1, rfl, b⟩
  have H1 := Lib.hid (show St w A n zs W1 from hS.out.step b)
  clear b hS
  go_upto_region 4 with fail
  obtain ⟨W2, HW⟩ : ∃ W2, Hid (W1.alloc (.cells #[.int .i64 t1.frm, .int .i64 t1.to_, .int .i64 t1.tape, .int .i64 t1.comp, .int .i64 t1.slope, .bool t1.back] 25) = W2) := ⟨_, Lib.hid rfl⟩
  have H2 := Lib.hid (show St w A n zs W2 by rw [← HW.out]; exact (H1.out.alloc _))
  have H3 := Lib.hid (show Blk W2 (W1.heap.size) 25 #[.int .i64 t1.frm, .int .i64 t1.to_, .int .i64 t1.tape, .int .i64 t1.comp, .int .i64 t1.slope, .bool t1.back] by rw [← HW.out]; exact Blk.new _ _ _)
  rw [HW.out]
  clear HW H1
  obtain ⟨G, hG⟩ : ∃ G, okEn t1 = G := ⟨_, rfl⟩
  obtain ⟨s1, hs, hz1, hy⟩ := ln_form t1 hG
  have HS1 := Lib.hid hs
  have HY1 := Lib.hid hy
  have HG1 := Lib.hid hG
  clear hs hy hG
  obtain ⟨⟨x2, ok2⟩, hp⟩ := pt_ex s1
  have HP2 := Lib.hid hp
  have HE2 := Lib.hid (show G = true → (x2, ok2) = (t1, true) from fun g => pt_yes hp (HY1.out g))
  clear hp
  have q_b1l := H3.out.lt
  have q_b10 : W2.cell? ⟨W1.heap.size, 0, none⟩ = some (.int .i64 t1.frm) := H3.out.cell 0
  have q_b11 : W2.cell? ⟨W1.heap.size, 1, none⟩ = some (.int .i64 t1.to_) := H3.out.cell 1
  have q_b12 : W2.cell? ⟨W1.heap.size, 2, none⟩ = some (.int .i64 t1.tape) := H3.out.cell 2
  have q_b13 : W2.cell? ⟨W1.heap.size, 3, none⟩ = some (.int .i64 t1.comp) := H3.out.cell 3
  have q_b14 : W2.cell? ⟨W1.heap.size, 4, none⟩ = some (.int .i64 t1.slope) := H3.out.cell 4
  have q_b15 : W2.cell? ⟨W1.heap.size, 5, none⟩ = some (.bool t1.back) := H3.out.cell 5
  go_wp2_with fail
  clear q_b1l q_b10 q_b11 q_b12 q_b13 q_b14 q_b15
  refine (lineI t1 _ HS1 _ (Lib.hid H2.out.2.2.1)).mono ?_
  rintro e W3 ⟨rfl, b⟩
  have H4 := Lib.hid (show St w A n zs W3 from H2.out.step b)
  have H5 := Lib.hid (show Blk W3 (W1.heap.size) 25 #[.int .i64 t1.frm, .int .i64 t1.to_, .int .i64 t1.tape, .int .i64 t1.comp, .int .i64 t1.slope, .bool t1.back] from H3.out.below b H3.out.lt)
  clear b H2 H3
  have q_b1l := H5.out.lt
  have q_b10 : W3.cell? ⟨W1.heap.size, 0, none⟩ = some (.int .i64 t1.frm) := H5.out.cell 0
  have q_b11 : W3.cell? ⟨W1.heap.size, 1, none⟩ = some (.int .i64 t1.to_) := H5.out.cell 1
  have q_b12 : W3.cell? ⟨W1.heap.size, 2, none⟩ = some (.int .i64 t1.tape) := H5.out.cell 2
  have q_b13 : W3.cell? ⟨W1.heap.size, 3, none⟩ = some (.int .i64 t1.comp) := H5.out.cell 3
  have q_b14 : W3.cell? ⟨W1.heap.size, 4, none⟩ = some (.int .i64 t1.slope) := H5.out.cell 4
  have q_b15 : W3.cell? ⟨W1.heap.size, 5, none⟩ = some (.bool t1.back) := H5.out.cell 5
  go_wp2_with fail
  clear q_b1l q_b10 q_b11 q_b12 q_b13 q_b14 q_b15
  refine (lineM t1 _ HS1 _).mono ?_
  rintro e W4 ⟨rfl, b⟩
  have H6 := Lib.hid (show St w A n zs W4 from H4.out.step b)
  have H7 := Lib.hid (show Blk W4 (W1.heap.size) 25 #[.int .i64 t1.frm, .int .i64 t1.to_, .int .i64 t1.tape, .int .i64 t1.comp, .int .i64 t1.slope, .bool t1.back] from H5.out.below b H5.out.lt)
  clear b H4 H5
  have q_b1l := H7.out.lt
  have q_b10 : W4.cell? ⟨W1.heap.size, 0, none⟩ = some (.int .i64 t1.frm) := H7.out.cell 0
  have q_b11 : W4.cell? ⟨W1.heap.size, 1, none⟩ = some (.int .i64 t1.to_) := H7.out.cell 1
  have q_b12 : W4.cell? ⟨W1.heap.size, 2, none⟩ = some (.int .i64 t1.tape) := H7.out.cell 2
  have q_b13 : W4.cell? ⟨W1.heap.size, 3, none⟩ = some (.int .i64 t1.comp) := H7.out.cell 3
  have q_b14 : W4.cell? ⟨W1.heap.size, 4, none⟩ = some (.int .i64 t1.slope) := H7.out.cell 4
  have q_b15 : W4.cell? ⟨W1.heap.size, 5, none⟩ = some (.bool t1.back) := H7.out.cell 5
  go_wp2_with fail
  clear q_b1l q_b10 q_b11 q_b12 q_b13 q_b14 q_b15
  refine (isI t1 G HG1 _).mono ?_
  rintro e W5 ⟨rfl, b⟩
  have H8 := Lib.hid (show St w A n zs W5 from H6.out.step b)
  have H9 := Lib.hid (show Blk W5 (W1.heap.size) 25 #[.int .i64 t1.frm, .int .i64 t1.to_, .int .i64 t1.tape, .int .i64 t1.comp, .int .i64 t1.slope, .bool t1.back] from H7.out.below b H7.out.lt)
  clear b H6 H7
  go_wp2_with fail
  refine (peI s1 x2 ok2 _ (by omega) HP2 (Lib.hid H8.out.2.2)).mono ?_
  rintro e W6 ⟨rfl, b⟩
  have H10 := Lib.hid (show St w A n zs W6 from H8.out.step b)
  have H11 := Lib.hid (show Blk W6 (W1.heap.size) 25 #[.int .i64 t1.frm, .int .i64 t1.to_, .int .i64 t1.tape, .int .i64 t1.comp, .int .i64 t1.slope, .bool t1.back] from H9.out.below b H9.out.lt)
  clear b H8 H9
  go_upto_region 9 with fail
  obtain ⟨W7, HW⟩ : ∃ W7, Hid (W6.alloc (.cells #[.int .i64 x2.frm, .int .i64 x2.to_, .int .i64 x2.tape, .int .i64 x2.comp, .int .i64 x2.slope, .bool x2.back] 25) = W7) := ⟨_, Lib.hid rfl⟩
  have H12 := Lib.hid (show St w A n zs W7 by rw [← HW.out]; exact (H10.out.alloc _))
  have H13 := Lib.hid (show Blk W7 (W1.heap.size) 25 #[.int .i64 t1.frm, .int .i64 t1.to_, .int .i64 t1.tape, .int .i64 t1.comp, .int .i64 t1.slope, .bool t1.back] by rw [← HW.out]; exact (H11.out.alloc _))
  have H14 := Lib.hid (show Blk W7 (W6.heap.size) 25 #[.int .i64 x2.frm, .int .i64 x2.to_, .int .i64 x2.tape, .int .i64 x2.comp, .int .i64 x2.slope, .bool x2.back] by rw [← HW.out]; exact Blk.new _ _ _)
  rw [HW.out]
  clear HW H10 H11
  go_cut [72] (fun v wx => v = .bool false ∧ St w A n zs wx)
  case first =>
    cases G
    · go_wp2_with fail
      go_meet
      case rel => exact ⟨rfl, H12.out⟩
    · have he := HE2.out (by simp)
      obtain ⟨e1, e2⟩ : x2 = t1 ∧ ok2 = true := by injection he with e1 e2; exact ⟨e1, e2⟩
      subst e2
      have HQ2 := Lib.hid (show Blk W7 (W6.heap.size) 25 #[.int .i64 t1.frm, .int .i64 t1.to_, .int .i64 t1.tape, .int .i64 t1.comp, .int .i64 t1.slope, .bool t1.back] by rw [← e1]; exact H14.out)
      clear he e1
      have q_b1l := H13.out.lt
      have q_b10 : W7.cell? ⟨W1.heap.size, 0, none⟩ = some (.int .i64 t1.frm) := H13.out.cell 0
      have q_b11 : W7.cell? ⟨W1.heap.size, 1, none⟩ = some (.int .i64 t1.to_) := H13.out.cell 1
      have q_b12 : W7.cell? ⟨W1.heap.size, 2, none⟩ = some (.int .i64 t1.tape) := H13.out.cell 2
      have q_b13 : W7.cell? ⟨W1.heap.size, 3, none⟩ = some (.int .i64 t1.comp) := H13.out.cell 3
      have q_b14 : W7.cell? ⟨W1.heap.size, 4, none⟩ = some (.int .i64 t1.slope) := H13.out.cell 4
      have q_b15 : W7.cell? ⟨W1.heap.size, 5, none⟩ = some (.bool t1.back) := H13.out.cell 5
      have q_b2l := HQ2.out.lt
      have q_b20 : W7.cell? ⟨W6.heap.size, 0, none⟩ = some (.int .i64 t1.frm) := HQ2.out.cell 0
      have q_b21 : W7.cell? ⟨W6.heap.size, 1, none⟩ = some (.int .i64 t1.to_) := HQ2.out.cell 1
      have q_b22 : W7.cell? ⟨W6.heap.size, 2, none⟩ = some (.int .i64 t1.tape) := HQ2.out.cell 2
      have q_b23 : W7.cell? ⟨W6.heap.size, 3, none⟩ = some (.int .i64 t1.comp) := HQ2.out.cell 3
      have q_b24 : W7.cell? ⟨W6.heap.size, 4, none⟩ = some (.int .i64 t1.slope) := HQ2.out.cell 4
      have q_b25 : W7.cell? ⟨W6.heap.size, 5, none⟩ = some (.bool t1.back) := HQ2.out.cell 5
      go_wp2_with fail
      go_meet
      case rel => exact ⟨rfl, H12.out⟩
  case rest =>
    obtain ⟨rfl, hcut2⟩ := hcut
    have SA := Lib.hid hcut2
    clear hcut2
    go_wp2_with fail
    refine (parseEntry_draw A n cap zs _ (Lib.hid SA.out.2.1)).mono ?_
    rintro e W8 ⟨s2, rfl, hz2, b⟩
    have H15 := Lib.hid (show St w A n zs W8 from SA.out.step b)
    clear b SA
    obtain ⟨⟨x3, ok3⟩, hp⟩ := pt_ex s2
    have HP3 := Lib.hid hp
    clear hp
    go_wp2_with fail
    refine (peI s2 x3 ok3 _ (by omega) HP3 (Lib.hid H15.out.2.2)).mono ?_
    rintro e W9 ⟨rfl, b⟩
    have H16 := Lib.hid (show St w A n zs W9 from H15.out.step b)
    clear b H15
    go_upto_region 13 with fail
    obtain ⟨W10, HW⟩ : ∃ W10, Hid (W9.alloc (.cells #[.int .i64 x3.frm, .int .i64 x3.to_, .int .i64 x3.tape, .int .i64 x3.comp, .int .i64 x3.slope, .bool x3.back] 25) = W10) := ⟨_, Lib.hid rfl⟩
    have H17 := Lib.hid (show St w A n zs W10 by rw [← HW.out]; exact (H16.out.alloc _))
    have H18 := Lib.hid (show Blk W10 (W9.heap.size) 25 #[.int .i64 x3.frm, .int .i64 x3.to_, .int .i64 x3.tape, .int .i64 x3.comp, .int .i64 x3.slope, .bool x3.back] by rw [← HW.out]; exact Blk.new _ _ _)
    rw [HW.out]
    clear HW H16
    go_wp2_with fail
    refine (peM s2 x3 ok3 _ (by omega) HP3).mono ?_
    rintro e W11 ⟨rfl, b⟩
    have H19 := Lib.hid (show St w A n zs W11 from H17.out.step b)
    have H20 := Lib.hid (show Blk W11 (W9.heap.size) 25 #[.int .i64 x3.frm, .int .i64 x3.to_, .int .i64 x3.tape, .int .i64 x3.comp, .int .i64 x3.slope, .bool x3.back] from H18.out.below b H18.out.lt)
    clear b H17 H18
    go_upto_region 14 with fail
    obtain ⟨W12, HW⟩ : ∃ W12, Hid (W11.alloc (.cells #[.int .i64 x3.frm, .int .i64 x3.to_, .int .i64 x3.tape, .int .i64 x3.comp, .int .i64 x3.slope, .bool x3.back] 25) = W12) := ⟨_, Lib.hid rfl⟩
    have H21 := Lib.hid (show St w A n zs W12 by rw [← HW.out]; exact (H19.out.alloc _))
    have H22 := Lib.hid (show Blk W12 (W9.heap.size) 25 #[.int .i64 x3.frm, .int .i64 x3.to_, .int .i64 x3.tape, .int .i64 x3.comp, .int .i64 x3.slope, .bool x3.back] by rw [← HW.out]; exact (H20.out.alloc _))
    have H23 := Lib.hid (show Blk W12 (W11.heap.size) 25 #[.int .i64 x3.frm, .int .i64 x3.to_, .int .i64 x3.tape, .int .i64 x3.comp, .int .i64 x3.slope, .bool x3.back] by rw [← HW.out]; exact Blk.new _ _ _)
    rw [HW.out]
    clear HW H19 H20
    have q_b3l := H22.out.lt
    have q_b30 : W12.cell? ⟨W9.heap.size, 0, none⟩ = some (.int .i64 x3.frm) := H22.out.cell 0
    have q_b31 : W12.cell? ⟨W9.heap.size, 1, none⟩ = some (.int .i64 x3.to_) := H22.out.cell 1
    have q_b32 : W12.cell? ⟨W9.heap.size, 2, none⟩ = some (.int .i64 x3.tape) := H22.out.cell 2
    have q_b33 : W12.cell? ⟨W9.heap.size, 3, none⟩ = some (.int .i64 x3.comp) := H22.out.cell 3
    have q_b34 : W12.cell? ⟨W9.heap.size, 4, none⟩ = some (.int .i64 x3.slope) := H22.out.cell 4
    have q_b35 : W12.cell? ⟨W9.heap.size, 5, none⟩ = some (.bool x3.back) := H22.out.cell 5
    have q_b4l := H23.out.lt
    have q_b40 : W12.cell? ⟨W11.heap.size, 0, none⟩ = some (.int .i64 x3.frm) := H23.out.cell 0
    have q_b41 : W12.cell? ⟨W11.heap.size, 1, none⟩ = some (.int .i64 x3.to_) := H23.out.cell 1
    have q_b42 : W12.cell? ⟨W11.heap.size, 2, none⟩ = some (.int .i64 x3.tape) := H23.out.cell 2
    have q_b43 : W12.cell? ⟨W11.heap.size, 3, none⟩ = some (.int .i64 x3.comp) := H23.out.cell 3
    have q_b44 : W12.cell? ⟨W11.heap.size, 4, none⟩ = some (.int .i64 x3.slope) := H23.out.cell 4
    have q_b45 : W12.cell? ⟨W11.heap.size, 5, none⟩ = some (.bool x3.back) := H23.out.cell 5
    go_wp2_with fail
    clear q_b3l q_b30 q_b31 q_b32 q_b33 q_b34 q_b35 q_b4l q_b40 q_b41 q_b42 q_b43 q_b44 q_b45
    clear H22
    clear H23
    refine (bookText_draw A n cap zs _ (Lib.hid H21.out.2.1)).mono ?_
    rintro e W13 ⟨v1, L1, t5, rfl, ho, hl1, hL1, b⟩
    obtain ⟨A1, c1, rfl⟩ := row_slice ho
    have HR1 := Lib.hid ho
    have HL1 := Lib.hid hl1
    clear ho hl1
    have H24 := Lib.hid (show St w A n zs W13 from H21.out.step b)
    clear b H21
    obtain ⟨G5, hG⟩ : ∃ G, goodEn t5 = G := ⟨_, rfl⟩
    obtain ⟨s5, hs, hz5, hy⟩ := bt_form t5 hG
    have HS5 := Lib.hid hs
    have HY5 := Lib.hid hy
    clear hs hy hG
    go_wp2_with fail
    refine (textI A1 L1 c1 t5 _ HS5 _ (by omega) (Lib.hid (own_En HL1.out HR1.out)) (Lib.hid H24.out.2.2.1)).mono ?_
    rintro e W14 ⟨rfl, b⟩
    have H25 := Lib.hid (show St w A n zs W14 from H24.out.step b)
    have H26 := Lib.hid (show W14.ownsRow (W12.heap.size) 25 6 (.slice A1 L1 c1) L1 (flatEn t5) from row_below HR1.out b)
    clear b H24 HR1
    go_wp2_with fail
    refine (textM A1 L1 c1 t5 _ HS5 _ (by omega) (Lib.hid (own_En HL1.out H26.out))).mono ?_
    rintro e W15 ⟨rfl, b⟩
    have H27 := Lib.hid (show St w A n zs W15 from H25.out.step b)
    have H28 := Lib.hid (show W15.ownsRow (W12.heap.size) 25 6 (.slice A1 L1 c1) L1 (flatEn t5) from row_below H26.out b)
    clear b H25 H26
    go_upto_if 113 with fail
    go_cut [20] (fun _ wx => St w A n zs wx)
    case first =>
      cases G5
      · go_wp2_with fail
        go_meet
        case rel => exact H27.out
      · have HP5 := Lib.hid (HY5.out (by simp))
        go_wp2_with fail
        refine (pbI s5 t5 0 true L1 _ HL1 (by omega) HP5 (Lib.hid H27.out.2.2)).mono ?_
        rintro e W16 ⟨Apb, cpb, rfl, ho, b⟩
        have HRpb := Lib.hid ho
        clear ho
        have H29 := Lib.hid (show St w A n zs W16 from H27.out.step b)
        have H30 := Lib.hid (show W16.ownsRow (W12.heap.size) 25 6 (.slice A1 L1 c1) L1 (flatEn t5) from row_below H28.out b)
        clear b H27 H28
        go_wp2_with fail
        refine (der.rentries_any Apb A1 L1 cpb c1 t5 _ (by omega) (Lib.hid (own_En HL1.out HRpb.out)) (Lib.hid (own_En HL1.out H30.out))).mono ?_
        rintro e W17 ⟨rfl, b⟩
        have H31 := Lib.hid (show St w A n zs W17 from H29.out.step b)
        have H32 := Lib.hid (show W17.ownsRow (W12.heap.size) 25 6 (.slice A1 L1 c1) L1 (flatEn t5) from row_below H30.out b)
        have H33 := Lib.hid (show W17.ownsRow (W15.heap.size) 25 6 (.slice Apb L1 cpb) L1 (flatEn t5) from row_below HRpb.out b)
        clear b H29 H30 HRpb
        go_wp2_with fail
        go_meet
        case rel => exact H31.out
    case rest =>
      have SB := Lib.hid hcut
      clear hcut
      go_wp2_with fail
      refine (parseBook_draw A n cap zs _ (Lib.hid SB.out.2.1)).mono ?_
      rintro e W18 ⟨s6, rfl, hz6, b⟩
      have H34 := Lib.hid (show St w A n zs W18 from SB.out.step b)
      clear b SB
      obtain ⟨⟨xs, ln, ok⟩, hp⟩ := pb_ex s6
      have HP6 := Lib.hid hp
      have hk : (ok == (ln == 0)) = true := by have h := pb_told hp; rw [h, beq_iff_eq, Bool.eq_iff_iff]; simp
      obtain ⟨N, HN⟩ : ∃ N, Hid (xs.length = N) := ⟨_, Lib.hid rfl⟩
      have hN : N ≤ 12 := by
        rw [← HN.out]
        obtain ⟨f, -, hsc⟩ := hp
        have h := scan_len f (iterc.pcs 10 s6.data.toList) 0 [] (Nat.le_refl _) (by decide)
        rw [hsc] at h; exact h
      clear hp
      go_wp2_with fail
      refine (pbI s6 xs ln ok N _ HN (by omega) HP6 (Lib.hid H34.out.2.2)).mono ?_
      rintro e W19 ⟨Api, cpi, rfl, ho, b⟩
      have HRpi := Lib.hid ho
      clear ho
      have H35 := Lib.hid (show St w A n zs W19 from H34.out.step b)
      clear b H34
      go_wp2_with fail
      refine (pbM s6 xs ln ok N _ HN (by omega) HP6).mono ?_
      rintro e W20 ⟨Apm, cpm, rfl, ho, b⟩
      have HRpm := Lib.hid ho
      clear ho
      have H36 := Lib.hid (show St w A n zs W20 from H35.out.step b)
      have H37 := Lib.hid (show W20.ownsRow (W18.heap.size) 25 6 (.slice Api N cpi) N (flatEn xs) from row_below HRpi.out b)
      clear b H35 HRpi
      go_wp2_with fail
      refine (der.rentries_any Api Apm N cpi cpm xs _ (by omega) (Lib.hid (own_En HN.out H37.out)) (Lib.hid (own_En HN.out HRpm.out))).mono ?_
      rintro e W21 ⟨rfl, b⟩
      have H38 := Lib.hid (show St w A n zs W21 from H36.out.step b)
      have H39 := Lib.hid (show W21.ownsRow (W18.heap.size) 25 6 (.slice Api N cpi) N (flatEn xs) from row_below H37.out b)
      have H40 := Lib.hid (show W21.ownsRow (W19.heap.size) 25 6 (.slice Apm N cpm) N (flatEn xs) from row_below HRpm.out b)
      clear b H36 H37 HRpm
      go_wp2_with fail
      go_ret
      exact ⟨rfl, H38.out.1⟩
end Go.Proofs.YtnlljdepcldibaaGreatDoor.bkw
