/-
  Pairs among people, teams, all skills, experience, Ids, by the program.
  Conditions: the lists lie in one block each; skills and trips are in bounds.
-/
import Derived.Test.YtidofckanadkpaaPiB
import Derived.Test.YtidofckanadkpaaPqE
import Derived.Deep.Cut
namespace Go.Proofs.Ytidofckanadkpaa.pi5
open Go.RowKit
open reads base inn ty rowi psk psl psm psn pso psp pq
set_option linter.unusedVariables false
set_option linter.unusedSimpArgs false

theorem hasS_bk (t : Ps) : hasS t.skills 1 = pt.bk t := by
  unfold hasS pt.bk
  rw [Bool.eq_iff_iff, decide_eq_true_eq, beq_iff_eq]
theorem hasS_tp (t : Ps) : hasS t.skills 2 = pt.tp t := by
  unfold hasS pt.tp
  rw [Bool.eq_iff_iff, decide_eq_true_eq, beq_iff_eq]
theorem cnt_snoc {α : Type} (p : α → Bool) {ts : List α} {k : Nat} {t : α} (h : ts[k]? = some t) : (ts.take (k + 1)).countP p = (ts.take k).countP p + (if p t then 1 else 0) := by
  rw [base.take_snoc h, List.countP_append]; simp [List.countP_cons]
theorem min_three (b y o v : Nat) (h : min (min b y) o = v) (ts : Array TypeId) (t : TypeId) (P : Program) (W : World) : (Builtin.min_ ts t #[.int .i64 (b : Int), .int .i64 (y : Int), .int .i64 (o : Int)]).run P W = .ok (.int .i64 (v : Int)) W := by
  have e : (if (o : Int) < (if y < b then (y : Int) else (b : Int)) then (o : Int) else (if y < b then (y : Int) else (b : Int))) = (v : Int) := by
    split <;> split at * <;> omega
  simp [Builtin.min_, Builtin.min2]
  exact e
set_option maxHeartbeats 8000000 in
set_option maxRecDepth 100000 in
theorem pairs_is (A : Option Addr) (n cap : Nat) (ts : List Ps) (v : Nat) (w : World) (hn : n ≤ 2000000) (hk : Hid (pt.okS ts)) (hts : Hid (PsAt w w.heap.size A n ts)) (hv : Hid (pt.prs ts = v)) :
    Calls Try.prog 81 #[.slice A n cap] w (APost (.int .i64 v) w) := by
  have hL : Hid (ts.length = n) := Lib.hid hts.out.1
  go_enter Try.func81, Try.ntmps81
  go_wp2_with fail
  go_loopw [3, 4, 5, 10] (fun u3 u4 u5 i wr => ∃ k b y o : Nat, k ≤ n ∧ i = .int .i64 k ∧ u3 = .int .i64 b ∧ u4 = .int .i64 y ∧ u5 = .int .i64 o ∧ b ≤ k ∧ y ≤ k ∧ o ≤ k ∧ Hid ((ts.take k).countP pt.bk = b) ∧ Hid ((ts.take k).countP pt.tp = y) ∧ Hid ((ts.take k).countP pt.ei = o) ∧ Below w.heap.size w wr) (fun _ _ _ i _ => n - (intOf i).toNat)
  case atStart => exact ⟨0, 0, 0, 0, Nat.zero_le _, rfl, rfl, rfl, rfl, Nat.le_refl _, Nat.le_refl _, Nat.le_refl _, Lib.hid (by simp), Lib.hid (by simp), Lib.hid (by simp), Below.refl _ _⟩
  case round =>
    obtain ⟨k, b, y, o, hkn, rfl, rfl, rfl, rfl, l1, l2, l3, HB, HY, HO, hBr⟩ := hrel
    have HR := Lib.hid hBr
    have hk0 : 0 ≤ (k : Int) := by omega
    by_cases hlt : k < n
    · have hki : (k : Int) < (n : Int) := by omega
      have hkd : decide (k < n) = true := by simpa using hlt
      obtain ⟨t, htk⟩ := at_lt hL.out hlt
      obtain ⟨g, rfl, hg, h0, h1, h2, h3⟩ := (hts.out.below hBr).2 k t htk
      have c1 := cnt_snoc pt.bk htk
      have c2 := cnt_snoc pt.tp htk
      have c3 := cnt_snoc pt.ei htk
      rw [HB.out] at c1
      rw [HY.out] at c2
      rw [HO.out] at c3
      have hsk := hk.out t (List.mem_of_getElem? htk)
      obtain ⟨p1, HP1⟩ : ∃ p, Hid (pt.bk t = p) := ⟨_, Lib.hid rfl⟩
      obtain ⟨p2, HP2⟩ : ∃ p, Hid (pt.tp t = p) := ⟨_, Lib.hid rfl⟩
      have HE := Lib.hid (show pt.ei t = (p1 || p2) by unfold pt.ei; rw [HP1.out, HP2.out])
      have HS1 := Lib.hid (show hasS t.skills 1 = p1 by rw [hasS_bk, HP1.out])
      have HS2 := Lib.hid (show hasS t.skills 2 = p2 by rw [hasS_tp, HP2.out])
      rw [HP1.out] at c1
      rw [HP2.out] at c2
      rw [HE.out] at c3
      have HBn := Lib.hid (HR.out.alloc hBr.size (.cells #[.int .i64 t.id, .string t.name, .int .i64 t.skills, .int .i64 t.trips] 41))
      clear htk hBr
      cases p1 <;> cases p2
      · have C1 := Lib.hid (show (ts.take (k + 1)).countP pt.bk = b from c1)
        have C2 := Lib.hid (show (ts.take (k + 1)).countP pt.tp = y from c2)
        have C3 := Lib.hid (show (ts.take (k + 1)).countP pt.ei = o from c3)
        clear c1 c2 c3
        go_wp2_with fail
        refine (hasSkills_is t.skills 1 _ HS1 hsk (by decide) _).mono ?_
        rintro e w1 ⟨rfl, rfl⟩
        go_wp2_with fail
        refine (hasSkills_is t.skills 2 _ HS2 hsk (by decide) _).mono ?_
        rintro e w1 ⟨rfl, rfl⟩
        go_wp2_with fail
        refine (hasSkills_is t.skills 1 _ HS1 hsk (by decide) _).mono ?_
        rintro e w1 ⟨rfl, rfl⟩
        go_wp2_with fail
        refine (hasSkills_is t.skills 2 _ HS2 hsk (by decide) _).mono ?_
        rintro e w1 ⟨rfl, rfl⟩
        go_wp2_with fail
        go_roundw
        case rel => exact ⟨k + 1, b, y, o, by omega, by go_num, rfl, rfl, rfl, by omega, by omega, by omega, C1, C2, C3, HBn.out⟩
        case measure => simp [intOf]; omega
      · have C1 := Lib.hid (show (ts.take (k + 1)).countP pt.bk = b from c1)
        have C2 := Lib.hid (show (ts.take (k + 1)).countP pt.tp = y + 1 from c2)
        have C3 := Lib.hid (show (ts.take (k + 1)).countP pt.ei = o + 1 from c3)
        clear c1 c2 c3
        go_wp2_with fail
        refine (hasSkills_is t.skills 1 _ HS1 hsk (by decide) _).mono ?_
        rintro e w1 ⟨rfl, rfl⟩
        go_wp2_with fail
        refine (hasSkills_is t.skills 2 _ HS2 hsk (by decide) _).mono ?_
        rintro e w1 ⟨rfl, rfl⟩
        go_wp2_with fail
        refine (hasSkills_is t.skills 1 _ HS1 hsk (by decide) _).mono ?_
        rintro e w1 ⟨rfl, rfl⟩
        go_wp2_with fail
        refine (hasSkills_is t.skills 2 _ HS2 hsk (by decide) _).mono ?_
        rintro e w1 ⟨rfl, rfl⟩
        go_wp2_with fail
        go_roundw
        case rel => exact ⟨k + 1, b, y + 1, o + 1, by omega, by go_num, rfl, by go_num, by go_num, by omega, by omega, by omega, C1, C2, C3, HBn.out⟩
        case measure => simp [intOf]; omega
      · have C1 := Lib.hid (show (ts.take (k + 1)).countP pt.bk = b + 1 from c1)
        have C2 := Lib.hid (show (ts.take (k + 1)).countP pt.tp = y from c2)
        have C3 := Lib.hid (show (ts.take (k + 1)).countP pt.ei = o + 1 from c3)
        clear c1 c2 c3
        go_wp2_with fail
        refine (hasSkills_is t.skills 1 _ HS1 hsk (by decide) _).mono ?_
        rintro e w1 ⟨rfl, rfl⟩
        go_wp2_with fail
        refine (hasSkills_is t.skills 2 _ HS2 hsk (by decide) _).mono ?_
        rintro e w1 ⟨rfl, rfl⟩
        go_wp2_with fail
        refine (hasSkills_is t.skills 1 _ HS1 hsk (by decide) _).mono ?_
        rintro e w1 ⟨rfl, rfl⟩
        go_wp2_with fail
        go_roundw
        case rel => exact ⟨k + 1, b + 1, y, o + 1, by omega, by go_num, by go_num, rfl, by go_num, by omega, by omega, by omega, C1, C2, C3, HBn.out⟩
        case measure => simp [intOf]; omega
      · have C1 := Lib.hid (show (ts.take (k + 1)).countP pt.bk = b + 1 from c1)
        have C2 := Lib.hid (show (ts.take (k + 1)).countP pt.tp = y + 1 from c2)
        have C3 := Lib.hid (show (ts.take (k + 1)).countP pt.ei = o + 1 from c3)
        clear c1 c2 c3
        go_wp2_with fail
        refine (hasSkills_is t.skills 1 _ HS1 hsk (by decide) _).mono ?_
        rintro e w1 ⟨rfl, rfl⟩
        go_wp2_with fail
        refine (hasSkills_is t.skills 2 _ HS2 hsk (by decide) _).mono ?_
        rintro e w1 ⟨rfl, rfl⟩
        go_wp2_with fail
        refine (hasSkills_is t.skills 1 _ HS1 hsk (by decide) _).mono ?_
        rintro e w1 ⟨rfl, rfl⟩
        go_wp2_with fail
        go_roundw
        case rel => exact ⟨k + 1, b + 1, y + 1, o + 1, by omega, by go_num, by go_num, by go_num, by go_num, by omega, by omega, by omega, C1, C2, C3, HBn.out⟩
        case measure => simp [intOf]; omega
    · have hkd : decide (k < n) = false := by simpa using hlt
      have ht : ts.take k = ts := List.take_of_length_le (by rw [hL.out]; omega)
      have HF := Lib.hid (show min (min b y) (o / 2) = v by rw [← hv.out]; unfold pt.prs pt.nb pt.nt pt.ne; rw [← HB.out, ← HY.out, ← HO.out, ht])
      clear hlt ht
      have hmin : ∀ (ts : Array TypeId) (t : TypeId) (W : World), (Builtin.min_ ts t #[.int .i64 (b : Int), .int .i64 (y : Int), .int .i64 ((o : Int) / 2)]).run Try.prog W = .ok (.int .i64 (v : Int)) W := fun ts t W => by
        have := min_three b y (o / 2) v HF.out ts t Try.prog W
        rwa [Int.natCast_ediv] at this
      go_wp2_with fail
      go_ret
      exact ⟨rfl, HR.out⟩
set_option maxHeartbeats 4000000 in
theorem areTeam_is (A : Option Addr) (n cap : Nat) (ts : List Ps) (b : Bool) (w : World) (hn : n ≤ 2000000) (hk : Hid (pt.okS ts)) (hts : Hid (PsAt w w.heap.size A n ts)) (hb : Hid (pt.teamS ts = b)) :
    Calls Try.prog 68 #[.slice A n cap] w (BPost b w) := by
  have hL : Hid (ts.length = n) := Lib.hid hts.out.1
  have HT := Lib.hid (pt.teamS_is hk.out)
  cases o : btw 2 n 5
  · have HF := Lib.hid (show false = b by rw [← hb.out, HT.out, hL.out, o]; rfl)
    have HW := Lib.hid (win.one_in o)
    clear o
    go_enter Try.func68, Try.ntmps68
    go_wp2_with fail
    refine (win.within_new 2 5 _ [(n : Int)] 1 3 _ false _ _ rfl rfl (by decide) rfl HW.out).mono ?_
    rintro e w' ⟨rfl, rfl⟩
    go_wp2_with fail
    go_ret
    exact ⟨ret_bool HF.out, (Below.refl _ _).alloc (Nat.le_refl _) _⟩
  · have HW := Lib.hid (win.one_in o)
    obtain ⟨v, HV⟩ : ∃ v, Hid (pt.prs ts = v) := ⟨_, Lib.hid rfl⟩
    have HF := Lib.hid (show decide (0 < v) = b by rw [← hb.out, HT.out, hL.out, o, HV.out]; rfl)
    have HTA := Lib.hid (hts.out.alloc (.cells #[.int .i64 (n : Int)] 3))
    clear o
    go_enter Try.func68, Try.ntmps68
    go_wp2_with fail
    refine (win.within_new 2 5 _ [(n : Int)] 1 3 _ true _ _ rfl rfl (by decide) rfl HW.out).mono ?_
    rintro e w' ⟨rfl, rfl⟩
    go_wp2_with fail
    refine (pairs_is A n cap ts v _ hn hk HTA HV).mono ?_
    rintro e w2 ⟨rfl, b2⟩
    have HB2 := Lib.hid (((Below.refl w.heap.size w).alloc (Nat.le_refl _) (.cells #[.int .i64 (n : Int)] 3)).trans (b2.mono (by simp)))
    clear b2
    go_wp2_with fail
    go_ret
    exact ⟨ret_bool HF.out, HB2.out⟩
theorem orS_next {ts : List Ps} {k : Nat} {t : Ps} (h : ts[k]? = some t) : pt.orS (ts.take (k + 1)) = orI (pt.orS (ts.take k)) t.skills := by
  rw [base.take_snoc h]; simp [pt.orS]
theorem trS_next {ts : List Ps} {k : Nat} {t : Ps} (h : ts[k]? = some t) : pt.trS (ts.take (k + 1)) = pt.trS (ts.take k) + t.trips := by
  rw [base.take_snoc h]; simp [pt.trS]
theorem ids_next {ts : List Ps} {k : Nat} {t : Ps} (h : ts[k]? = some t) : pt.ids (ts.take (k + 1)) = pt.ids (ts.take k) ++ [t.id] := by
  rw [base.take_snoc h]; simp [pt.ids]
set_option maxHeartbeats 4000000 in
set_option maxRecDepth 100000 in
theorem skillsTogether_is (A : Option Addr) (n cap : Nat) (ts : List Ps) (v : Int) (w : World) (hn : n ≤ 2000000) (hk : Hid (pt.okS ts)) (hts : Hid (PsAt w w.heap.size A n ts)) (hv : Hid (pt.orS ts = v)) :
    Calls Try.prog 59 #[.slice A n cap] w (APost (.int .i64 v) w) := by
  have hL : Hid (ts.length = n) := Lib.hid hts.out.1
  go_enter Try.func59, Try.ntmps59
  go_wp2_with fail
  go_loopw [3, 8] (fun s i wr => ∃ (k : Nat) (z : Int), k ≤ n ∧ i = .int .i64 k ∧ s = .int .i64 z ∧ Hid (pt.orS (ts.take k) = z) ∧ (0 ≤ z ∧ z ≤ 15) ∧ Below w.heap.size w wr) (fun _ i _ => n - (intOf i).toNat)
  case atStart => exact ⟨0, 0, Nat.zero_le _, rfl, rfl, Lib.hid rfl, by omega, Below.refl _ _⟩
  case round =>
    obtain ⟨k, z, hkn, rfl, rfl, HZ, hz, hBr⟩ := hrel
    have HR := Lib.hid hBr
    have hk0 : 0 ≤ (k : Int) := by omega
    by_cases hlt : k < n
    · have hki : (k : Int) < (n : Int) := by omega
      have hkd : decide (k < n) = true := by simpa using hlt
      obtain ⟨t, htk⟩ := at_lt hL.out hlt
      obtain ⟨g, rfl, hg, h0, h1, h2, h3⟩ := (hts.out.below hBr).2 k t htk
      have hsk := hk.out t (List.mem_of_getElem? htk)
      have HZ2 := Lib.hid (show pt.orS (ts.take (k + 1)) = orI z t.skills by rw [orS_next htk, HZ.out])
      have hor := or_wrap hz hsk
      have hbd := Lib.hid (orI_bd hz hsk)
      have HBn := Lib.hid (HR.out.alloc hBr.size (.cells #[.int .i64 t.id, .string t.name, .int .i64 t.skills, .int .i64 t.trips] 41))
      clear htk hBr
      go_wp2_with fail
      go_roundw
      case rel => exact ⟨k + 1, orI z t.skills, by omega, by go_num, by first | rfl | (rw [hor]) | (congr 1), HZ2, hbd.out, HBn.out⟩
      case measure => simp [intOf]; omega
    · have hkd : decide (k < n) = false := by simpa using hlt
      obtain rfl : z = v := by rw [← HZ.out, List.take_of_length_le (by rw [hL.out]; omega)]; exact hv.out
      clear hlt
      go_wp2_with fail
      go_ret
      exact ⟨rfl, HR.out⟩
set_option maxHeartbeats 4000000 in
set_option maxRecDepth 100000 in
theorem areExperienced_is (A : Option Addr) (n cap : Nat) (ts : List Ps) (v : Bool) (w : World) (hn : n ≤ 2000000) (hk : Hid (∀ t ∈ ts, 0 ≤ t.trips ∧ t.trips ≤ 500)) (hts : Hid (PsAt w w.heap.size A n ts)) (hv : Hid (decide (20 ≤ pt.trS ts) = v)) :
    Calls Try.prog 57 #[.slice A n cap] w (BPost v w) := by
  have hL : Hid (ts.length = n) := Lib.hid hts.out.1
  go_enter Try.func57, Try.ntmps57
  go_wp2_with fail
  go_loopw [3, 8] (fun s i wr => ∃ (k : Nat) (z : Int), k ≤ n ∧ i = .int .i64 k ∧ s = .int .i64 z ∧ Hid (pt.trS (ts.take k) = z) ∧ (0 ≤ z ∧ z ≤ 500 * k) ∧ Below w.heap.size w wr) (fun _ i _ => n - (intOf i).toNat)
  case atStart => exact ⟨0, 0, Nat.zero_le _, rfl, rfl, Lib.hid rfl, by omega, Below.refl _ _⟩
  case round =>
    obtain ⟨k, z, hkn, rfl, rfl, HZ, hz, hBr⟩ := hrel
    have HR := Lib.hid hBr
    have hk0 : 0 ≤ (k : Int) := by omega
    by_cases hlt : k < n
    · have hki : (k : Int) < (n : Int) := by omega
      have hkd : decide (k < n) = true := by simpa using hlt
      obtain ⟨t, htk⟩ := at_lt hL.out hlt
      obtain ⟨g, rfl, hg, h0, h1, h2, h3⟩ := (hts.out.below hBr).2 k t htk
      obtain ⟨ht0, ht1⟩ := hk.out t (List.mem_of_getElem? htk)
      have HZ2 := Lib.hid (show pt.trS (ts.take (k + 1)) = z + t.trips by rw [trS_next htk, HZ.out])
      have HBn := Lib.hid (HR.out.alloc hBr.size (.cells #[.int .i64 t.id, .string t.name, .int .i64 t.skills, .int .i64 t.trips] 41))
      clear htk hBr
      go_wp2_with fail
      go_roundw
      case rel => exact ⟨k + 1, z + t.trips, by omega, by go_num, by go_num, HZ2, by omega, HBn.out⟩
      case measure => simp [intOf]; omega
    · have hkd : decide (k < n) = false := by simpa using hlt
      have HF := Lib.hid (show decide (20 ≤ z) = v by rw [← hv.out, ← HZ.out, List.take_of_length_le (by rw [hL.out]; omega)])
      clear hlt
      go_wp2_with fail
      go_ret
      exact ⟨ret_bool HF.out, HR.out⟩
set_option maxHeartbeats 4000000 in
set_option maxRecDepth 100000 in
theorem idsOf_is (A : Option Addr) (n cap : Nat) (ts : List Ps) (w : World) (hn : n ≤ 2000000) (hts : Hid (PsAt w w.heap.size A n ts)) :
    Calls Try.prog 60 #[.slice A n cap] w (IPost (pt.ids ts) w) := by
  obtain ⟨i0, hi, hz0, hz1, hz2⟩ := info_parts infoI
  have hrow0 : (w.alloc (.cells #[] 3)).ownsRow w.heap.size 3 1 (.slice (some ⟨w.heap.size, 0, none⟩) 0 0) 0 [] := World.ownsRow_made w #[] 0 (Nat.le_refl _) (by decide) (by simp)
  have HRow := Lib.hid hrow0
  have HB0 := Lib.hid ((Below.refl w.heap.size w).alloc (Nat.le_refl _) (.cells #[] 3))
  have hL : Hid (ts.length = n) := Lib.hid hts.out.1
  clear hrow0
  go_enter Try.func60, Try.ntmps60
  go_wp2_with fail
  go_loopw [3, 9] (fun v i wr => ∃ (k : Nat) (xs : List Int), k ≤ n ∧ i = .int .i64 k ∧ Hid (xs.length = k) ∧ Hid (pt.ids (ts.take k) = xs) ∧ Hid (wr.ownsRow w.heap.size 3 1 v k (ints.intsV xs)) ∧ Below w.heap.size w wr) (fun _ i _ => n - (intOf i).toNat)
  case atStart => exact ⟨0, [], Nat.zero_le _, rfl, Lib.hid rfl, Lib.hid rfl, HRow, HB0.out⟩
  case round =>
    obtain ⟨k, xs, hk, rfl, HLX, HD, HO, hB⟩ := hrel
    have hBs := hB.size
    have HB := Lib.hid hB
    clear hB
    by_cases hlt : k < n
    · obtain ⟨t, htk⟩ := at_lt hL.out hlt
      obtain ⟨g, rfl, hgB, h0, h1, h2, h3⟩ := (hts.out.below HB.out).2 k t htk
      have HN := Lib.hid (show pt.ids (ts.take (k + 1)) = xs ++ [t.id] by rw [ids_next htk, HD.out])
      clear htk
      have hki : (k : Int) < (n : Int) := by omega
      have hk0 : 0 ≤ (k : Int) := by omega
      have hkd : decide (k < n) = true := by simpa using hlt
      go_upto_region 5 with fail
      obtain ⟨W, HW, HWO, HWB, HWC⟩ : ∃ W, Hid (wr.alloc (.cells #[.int .i64 t.id, .string t.name, .int .i64 t.skills, .int .i64 t.trips] 41) = W) ∧ Hid (W.ownsRow w.heap.size 3 1 u3 k (ints.intsV xs)) ∧ Hid (Below w.heap.size w W) ∧ Hid (Blk W wr.heap.size 41 #[.int .i64 t.id, .string t.name, .int .i64 t.skills, .int .i64 t.trips]) := ⟨_, Lib.hid rfl, Lib.hid (HO.out.alloc _), Lib.hid (HB.out.alloc hBs _), Lib.hid (Blk.new _ _ _)⟩
      obtain ⟨X, HX⟩ : ∃ X, Hid (wr.heap.size = X) := ⟨_, Lib.hid rfl⟩
      rw [HW.out, HX.out]
      rw [HX.out] at HWC
      have cX := HWC.out.cell 0
      have hWs := HWB.out.size
      clear h0 h1 h2 h3 HW
      go_wp2_with (at_builtin; refine wpList_append_own _ rfl _ _ 27 rfl w.heap.size 3 i0 (.int .i64 0) 1 8 Try.underlying27 hi hz0 hz1 hz2 rfl (by decide) _ _ _ rfl (HWO.out.alloc _) ⟨W.heap.size, 0, none⟩ 1 1 [.int .i64 t.id] rfl rfl (cell_one_new _ _ _) (by simp [Value.oneCell']) (by unfold maxLen; omega) (by omega) (by simp; omega) ?_; intro v' w2 hown' hgrow _)
      go_roundw
      case rel =>
        refine ⟨k + 1, xs ++ [t.id], by omega, by go_num, Lib.hid (by simp [HLX.out]), HN, Lib.hid (by rw [intsV_app]; exact hown'), ?_⟩
        exact (HWB.out.alloc hWs _).grown hgrow (by simp; omega) (fun j ej => (HWO.out.lt j ej).1)
      case measure => simp [intOf]; omega
    · have hkd : decide (k < n) = false := by simpa using hlt
      have HF := Lib.hid (show pt.ids ts = xs by have := HD.out; rwa [List.take_of_length_le (by rw [hL.out]; omega)] at this)
      have hkn : k = n := by omega
      clear hlt
      go_wp2_with fail
      go_ret
      rw [HF.out]
      exact ⟨_, rfl, by rw [HLX.out]; exact HO.out, HB.out⟩
#print axioms areTeam_is
#print axioms skillsTogether_is
#print axioms areExperienced_is
#print axioms idsOf_is
end Go.Proofs.Ytidofckanadkpaa.pi5
