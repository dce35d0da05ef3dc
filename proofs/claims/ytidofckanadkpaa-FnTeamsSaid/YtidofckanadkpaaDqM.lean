/-
  Small helpers of the laws of teams: people compared, lists of lists compared, whether a list has a number.
  What the laws of teams ask: smallest teams are teams and lack nothing, trips, counts, split teams.
  Conditions: those that each theorem names.
-/
import Derived.Test.YtidofckanadkpaaPiM
import Derived.Test.YtidofckanadkpaaIntM
import Derived.Test.YtidofckanadkpaaRs
import Derived.Deep.RegionHeld3
import Derived.Deep.QuietTactic
import Derived.BigQuiet
namespace Go.Proofs.Ytidofckanadkpaa.dq
open Go.RowKit
open reads base ty pq tab ints
set_option linter.unusedVariables false
set_option linter.unusedSimpArgs false

set_option maxHeartbeats 4000000 in
theorem rhas_any (A : Option Addr) (n cap : Nat) (xs : List Int) (a : Int) (w : World) (hn : n ≤ 2000000) (hx : Hid (ints.IL w A n xs)) :
    Calls Try.prog 25 #[.slice A n cap, .int .i64 a] w fun e w' => e = .returned (.bool (mem xs a)) ∧ w = w' := by
  have hL : Hid (xs.length = n) := Lib.hid hx.out.1
  go_enter Try.func25, Try.ntmps25
  go_wp2_with fail
  go_loop [5] (fun i => ∃ k : Nat, k ≤ n ∧ i = .int .i64 k ∧ Hid ((xs.take k).all (fun x => !(x == a)) = true)) (fun i => n - (intOf i).toNat)
  case atStart => exact ⟨0, Nat.zero_le _, rfl, Lib.hid (by simp)⟩
  case round =>
    obtain ⟨k, hk, rfl, HI⟩ := hrel
    have hk0 : 0 ≤ (k : Int) := by omega
    by_cases h1 : k < n
    · have hki : (k : Int) < (n : Int) := by omega
      have hkd : decide (k < n) = true := by simpa using h1
      obtain ⟨x, hxk⟩ := at_lt hL.out h1
      obtain ⟨g, rfl, e0⟩ := hx.out.2 k x hxk
      have HK := Lib.hid hxk
      clear hxk
      by_cases he : x = a
      · have HF := Lib.hid (show mem xs a = true from mem_yes HK.out he)
        have hd2 : (x == a) = true := by simpa using he
        subst he
        go_wp2_with fail
        go_ret
        exact ⟨ret_bool HF.out.symm, rfl⟩
      · have HN := Lib.hid (all_take (p := fun x => !(x == a)) HK.out HI.out (by simpa using he))
        have hd2 : (x == a) = false := by simpa using he
        have hd3 : decide (x = a) = false := by simpa using he
        clear he
        go_wp2_with fail
        go_round
        case rel => exact ⟨k + 1, by omega, by go_num, HN⟩
        case measure => simp [intOf]; omega
    · have hkd : decide (k < n) = false := by simpa using h1
      obtain rfl : k = n := by omega
      have HF := Lib.hid (show mem xs a = false from mem_no (by rw [hL.out]; exact HI.out))
      clear h1
      go_wp2_with fail
      go_ret
      exact ⟨ret_bool HF.out.symm, rfl⟩
theorem rhas_is (A : Option Addr) (n cap : Nat) (xs : List Int) (a : Int) (t : Bool) (h : Hid (mem xs a = t)) (w : World) (hn : n ≤ 2000000) (hx : Hid (ints.IL w A n xs)) :
    Calls Try.prog 25 #[.slice A n cap, .int .i64 a] w fun e w' => e = .returned (.bool t) ∧ w = w' := by rw [← h.out]; exact rhas_any A n cap xs a w hn hx

set_option maxHeartbeats 4000000 in
theorem rpeople_any (A A' : Option Addr) (n c c' : Nat) (ts : List Ps) (w : World) (hn : n ≤ 2000000) (hr : Hid (PsAt w w.heap.size A n ts)) (hr' : Hid (PsAt w w.heap.size A' n ts)) :
    Calls Try.prog 24 #[.slice A n c, .slice A' n c'] w (BPost true w) := by
  have hL : Hid (ts.length = n) := Lib.hid hr.out.1
  go_enter Try.func24, Try.ntmps24
  go_wp2_with fail
  go_loopw [5] (fun i wr => ∃ k m : Nat, k ≤ n ∧ i = .int .i64 k ∧ wr = w.drewN m) (fun i _ => n - (intOf i).toNat)
  case atStart => exact ⟨0, 0, Nat.zero_le _, rfl, rfl⟩
  case round =>
    obtain ⟨k, m, hk, rfl, rfl⟩ := hrel
    by_cases hlt : k < n
    · obtain ⟨t, htk⟩ := at_lt hL.out hlt
      obtain ⟨g, rfl, hg, h0, h1, h2, h3⟩ := hr.out.2 k t htk
      obtain ⟨g', rfl, hg', k0, k1, k2, k3⟩ := hr'.out.2 k t htk
      clear htk hr hr'
      have hki : (k : Int) < (n : Int) := by omega
      have hk0 : 0 ≤ (k : Int) := by omega
      have hkd : decide (k < n) = true := by simpa using hlt
      go_wp2_with fail
      go_quiet (fail)
      go_wp2_with fail
      go_roundw
      case rel => exact ⟨k + 1, _, by omega, by go_num, rfl⟩
      case measure => simp [intOf]; omega
    · have hkd : decide (k < n) = false := by simpa using hlt
      go_wp2_with fail
      go_ret
      exact ⟨rfl, ends.below_drewN (Below.refl _ _) m⟩
set_option maxHeartbeats 4000000 in
theorem rtable_tab (A A' : Option Addr) (n c c' b b' : Nat) (vs vs' : List Value) (L : List (List Int)) (w : World) (hn : n ≤ 2000000) (hl : Hid (intt.off L ≤ 2000000)) (hL : Hid (L.length = n)) (ho : Hid (w.ownsRow b 27 1 (.slice A n c) n vs)) (ht : Hid (TabV 3 1 intsV w b vs L)) (ho' : Hid (w.ownsRow b' 27 1 (.slice A' n c') n vs')) (ht' : Hid (TabV 3 1 intsV w b' vs' L)) :
    Calls Try.prog 35 #[.slice A n c, .slice A' n c'] w (BPost true w) := by
  obtain ⟨B, HBB⟩ : ∃ B, Hid (w.heap.size = B) := ⟨_, Lib.hid rfl⟩
  obtain ⟨W0, HW0⟩ : ∃ W0, Hid (w = W0) := ⟨_, Lib.hid rfl⟩
  have HO := Lib.hid (show W0.ownsRow b 27 1 (.slice A n c) n vs by rw [← HW0.out]; exact ho.out)
  have HO' := Lib.hid (show W0.ownsRow b' 27 1 (.slice A' n c') n vs' by rw [← HW0.out]; exact ho'.out)
  have HT := Lib.hid (show TabV 3 1 intsV W0 b vs L by rw [← HW0.out]; exact ht.out)
  have HT' := Lib.hid (show TabV 3 1 intsV W0 b' vs' L by rw [← HW0.out]; exact ht'.out)
  have HWB := Lib.hid (show B = W0.heap.size by rw [← HW0.out, ← HBB.out])
  have HB1 := Lib.hid (show ∀ v, Below B W0 v → Below w.heap.size w v from fun v hv => by rw [HBB.out, HW0.out]; exact hv)
  clear ho ho' ht ht'
  go_enter Try.func35, Try.ntmps35
  go_wp2_with fail
  go_loopw [5] (fun i wr => ∃ k : Nat, k ≤ n ∧ i = .int .i64 k ∧ Below B W0 wr) (fun i _ => n - (intOf i).toNat)
  case atStart => exact ⟨0, Nat.zero_le _, rfl, by rw [HW0.out]; exact Below.refl _ _⟩
  case round =>
    obtain ⟨k, hk, rfl, hBr⟩ := hrel
    have HR := Lib.hid hBr
    clear hBr
    by_cases hlt : k < n
    · obtain ⟨x, hx⟩ : ∃ x, L[k]? = some x := ⟨_, List.getElem?_eq_getElem (by rw [hL.out]; exact hlt)⟩
      have HX := Lib.hid hx
      have hxl : x.length ≤ 2000000 := Nat.le_trans (intt.off_le (List.mem_of_getElem? hx)) hl.out
      obtain ⟨X, cx, hv, hrow⟩ := intt.row_at (n := n) HT.out hx
      obtain ⟨X', cx', hv', hrow'⟩ := intt.row_at (n := n) HT'.out hx
      obtain ⟨g, cap, hg1, -, -⟩ := HO.out.form (by omega)
      obtain ⟨g', cap', hg2, -, -⟩ := HO'.out.form (by omega)
      injection hg1 with hA _ hc
      injection hg2 with hA' _ hc'
      subst hA hA' hc hc'
      have hgB : g < B := by rw [HWB.out]; exact (HO.out.lt g rfl).2
      have hgB' : g' < B := by rw [HWB.out]; exact (HO'.out.lt g' rfl).2
      have h0 : W0.cell? ⟨g, k, none⟩ = some (.slice X x.length cx) := (HO.out.cellAt k (by omega)).trans hv
      have h0' : W0.cell? ⟨g', k, none⟩ = some (.slice X' x.length cx') := (HO'.out.cellAt k (by omega)).trans hv'
      have HRW := Lib.hid hrow
      have HRW' := Lib.hid hrow'
      clear hx hv hv' hrow hrow'
      have hki : (k : Int) < (n : Int) := by omega
      have hk0 : 0 ≤ (k : Int) := by omega
      have hkd : decide (k < n) = true := by simpa using hlt
      have HEQ := Lib.hid (show ∀ v : World, Below B W0 v → Calls Try.prog 18 #[.slice X x.length cx, .slice X' x.length cx'] v (BPost true v) from fun v hb => (rs.rints_any X X' x.length cx cx' x v hxl (Lib.hid (IL.of_own (row_below HRW.out (by rw [← HWB.out]; exact hb)))) (Lib.hid (IL.of_own (row_below HRW'.out (by rw [← HWB.out]; exact hb))))).mono (by rintro e w' ⟨rfl, m, rfl⟩; exact ⟨rfl, ends.below_drewN (Below.refl _ _) m⟩))
      have HWB' := Lib.hid (show B ≤ W0.heap.size by rw [HWB.out]; exact Nat.le_refl _)
      obtain ⟨xl, hxl2⟩ : ∃ xl, Hid (x.length = xl) := ⟨_, Lib.hid rfl⟩
      rw [hxl2.out] at h0 h0' HEQ
      go_wp2_with fail
      refine wp_region_held_drew (S := (fun w' => (∀ b o, b < B → w'.cell? ⟨b, o, none⟩ = W0.cell? ⟨b, o, none⟩) ∧ Below B W0 w')) (by kernel_rfl) ?_ (fun hHeld => ?_)
      · exact sb_start HR.out
      refine' wpAnyH_take (i := 0) (v := ?vr1_0) rfl (by kernel_rfl) (by kernel_rfl) (by kernel_rfl) (fun _ _ _ h => h) (Or.inl ⟨by rfl, ?hyr1_0⟩) (by assumption) ?restr1_0
      case hyr1_0 => (intro w hSw; (try dsimp only at hSw); go_simp; try (with_reducible rfl))
      simp only [Act.put, List.getElem_toArray, List.getElem_cons_succ, List.getElem_cons_zero, List.setIfInBounds_toArray, List.set_cons_zero, List.set_cons_succ]
      refine' wpAnyH_take (i := 1) (v := ?vr1_1) rfl (by kernel_rfl) (by kernel_rfl) (by kernel_rfl) (fun _ _ _ h => h) (Or.inl ⟨by rfl, ?hyr1_1⟩) (by assumption) ?restr1_1
      case hyr1_1 => (intro w hSw; (try dsimp only at hSw); go_simp; try (with_reducible rfl))
      simp only [Act.put, List.getElem_toArray, List.getElem_cons_succ, List.getElem_cons_zero, List.setIfInBounds_toArray, List.set_cons_zero, List.set_cons_succ]
      refine' wpAnyH_take (i := 2) (v := ?vr1_2) rfl (by kernel_rfl) (by kernel_rfl) (by kernel_rfl) (fun _ _ _ h => h) (Or.inl ⟨by rfl, ?hyr1_2⟩) (by assumption) ?restr1_2
      case hyr1_2 => (intro w hSw; (try dsimp only at hSw); go_simp; try (with_reducible rfl))
      simp only [Act.put, List.getElem_toArray, List.getElem_cons_succ, List.getElem_cons_zero, List.setIfInBounds_toArray, List.set_cons_zero, List.set_cons_succ]
      refine' wpAnyH_take (i := 3) (v := ?vr1_3) rfl (by kernel_rfl) (by kernel_rfl) (by kernel_rfl) (fun _ _ _ h => h) (Or.inl ⟨by rfl, ?hyr1_3⟩) (by assumption) ?restr1_3
      case hyr1_3 => (intro w hSw; (try dsimp only at hSw); go_simp; try (with_reducible rfl))
      simp only [Act.put, List.getElem_toArray, List.getElem_cons_succ, List.getElem_cons_zero, List.setIfInBounds_toArray, List.set_cons_zero, List.set_cons_succ]
      refine' wpAnyH_take (i := 4) (v := ?vr1_4) rfl (by kernel_rfl) (by kernel_rfl) (by kernel_rfl) (fun _ _ _ h => h) (Or.inl ⟨by rfl, ?hyr1_4⟩) (by assumption) ?restr1_4
      case hyr1_4 => (intro w hSw; (try dsimp only at hSw); go_simp; try (with_reducible rfl))
      simp only [Act.put, List.getElem_toArray, List.getElem_cons_succ, List.getElem_cons_zero, List.setIfInBounds_toArray, List.set_cons_zero, List.set_cons_succ]
      refine' wpAnyH_take (i := 5) (v := ?vr1_5) rfl (by kernel_rfl) (by kernel_rfl) (by kernel_rfl) (fun _ _ _ h => h) (Or.inl ⟨by rfl, ?hyr1_5⟩) (by assumption) ?restr1_5
      case hyr1_5 => (intro w hSw; (try dsimp only at hSw); go_simp; try (with_reducible rfl))
      simp only [Act.put, List.getElem_toArray, List.getElem_cons_succ, List.getElem_cons_zero, List.setIfInBounds_toArray, List.set_cons_zero, List.set_cons_succ]
      refine' wpAnyH_take (i := 6) (v := ?vr1_6) rfl (by kernel_rfl) (by kernel_rfl) (by kernel_rfl) (fun _ _ _ h => h) (Or.inl ⟨by rfl, ?hyr1_6⟩) (by assumption) ?restr1_6
      case hyr1_6 => (intro w hSw; (try dsimp only at hSw); go_simp; try (with_reducible rfl))
      simp only [Act.put, List.getElem_toArray, List.getElem_cons_succ, List.getElem_cons_zero, List.setIfInBounds_toArray, List.set_cons_zero, List.set_cons_succ]
      refine' wpAnyH_take (i := 7) (v := ?vr1_7) rfl (by kernel_rfl) (by kernel_rfl) (by kernel_rfl) (fun _ _ _ h => h) (Or.inl ⟨by rfl, ?hyr1_7⟩) (by assumption) ?restr1_7
      case hyr1_7 => (intro w hSw; (try dsimp only at hSw); go_simp; try (with_reducible rfl))
      simp only [Act.put, List.getElem_toArray, List.getElem_cons_succ, List.getElem_cons_zero, List.setIfInBounds_toArray, List.set_cons_zero, List.set_cons_succ]
      refine wpAnyH_ready (rs := [8]) (by kernel_rfl) (by simp) ?_
      refine AllReadyH.cons rfl (fun K hK => ?_) AllReadyH.nil
      go_simp
      refine (HEQ.out _ hHeld.2).mono ?_
      rintro e w1 ⟨rfl, b1⟩
      refine hK.out _ _ (sb_step hHeld HWB'.out b1) (fun hHeld1 => ?_)
      clear hK K hHeld
      have hHeld := hHeld1
      clear hHeld1
      try simp only [Act.put, List.getElem_toArray, List.getElem_cons_succ, List.getElem_cons_zero, List.setIfInBounds_toArray, List.set_cons_zero, List.set_cons_succ]
      refine' wpAnyH_take (i := 9) (v := ?vr1_9) rfl (by kernel_rfl) (by kernel_rfl) (by kernel_rfl) (fun _ _ _ h => h) (Or.inl ⟨by rfl, ?hyr1_9⟩) (by assumption) ?restr1_9
      case hyr1_9 => (intro w hSw; (try dsimp only at hSw); go_simp; try (with_reducible rfl))
      simp only [Act.put, List.getElem_toArray, List.getElem_cons_succ, List.getElem_cons_zero, List.setIfInBounds_toArray, List.set_cons_zero, List.set_cons_succ]
      refine wpAnyH_done (by kernel_rfl) ?_ _
      have HR2 := Lib.hid hHeld.2
      clear hHeld
      go_wp2_with fail
      go_roundw
      case rel => exact ⟨k + 1, by omega, by go_num, HR2.out⟩
      case measure => simp [intOf]; omega
    · have hkd : decide (k < n) = false := by simpa using hlt
      go_wp2_with fail
      go_ret
      exact ⟨rfl, HB1.out _ HR.out⟩

end Go.Proofs.Ytidofckanadkpaa.dq

namespace Go.Proofs.Ytidofckanadkpaa.fq
open Go.RowKit
open reads base ty psk psl psm psn pso psp pq
set_option linter.unusedVariables false
set_option linter.unusedSimpArgs false

theorem asked_sub {ts s : List Ps} (hg : psg.good ts = true) (hs : s.Sublist ts) : asked ts (pt.ids s) = true := by
  unfold asked
  rw [Bool.and_eq_true, Bool.and_eq_true]
  refine ⟨⟨List.all_eq_true.2 (mem_hh hg (fun x hx => hs.subset hx)), hg⟩, ?_⟩
  refine pt.pair_rising (pt.asc_ids ((good_asc hg).sub hs)) ?_
  intro x hx
  obtain ⟨t, ht, rfl⟩ := List.mem_map.1 hx
  exact good_id hg t (hs.subset ht)
theorem is_sub {ts s : List Ps} (hg : psg.good ts = true) (hs : s.Sublist ts) (ht : pt.teamS s = true) : ansIs ts (pt.ids s) = .tuple #[.bool true, .bool true] := by
  have h1 : team ts (pt.ids s) = true := by rw [pt.team_is (good_asc hg) (fun x hx => hs.subset hx)]; exact ht
  unfold ansIs
  rw [asked_sub hg hs, h1]
  rfl
theorem andI_comm (x y : Int) : andI x y = andI y x := by unfold andI; rw [Nat.and_comm]
/-- a smallest team is one, and lacks none of the skills -/
theorem small_facts {ts : List Ps} {q : Int} (h : 0 < (smIds ts q).length) : ansIs ts (smIds ts q) = .tuple #[.bool true, .bool true] ∧ ansMs ts (smIds ts q) q = .tuple #[.int .i64 0, .bool true] := by
  have hok : smOk ts q = true := by
    cases e : smOk ts q
    · unfold smIds at h; rw [e] at h; simp at h
    · rfl
  have e0 : smIds ts q = smB ts q (2 ^ ts.length) := by unfold smIds; rw [if_pos hok]
  rw [e0] at h ⊢
  obtain ⟨hg, hq⟩ : psg.good ts = true ∧ btw 0 q 15 = true := by unfold smOk at hok; rwa [Bool.and_eq_true] at hok
  cases e : smSel ts q (2 ^ ts.length) with
  | none => unfold smB at h; rw [e] at h; simp at h
  | some i =>
    have h1 := (smSel_some e).1
    have h2 := (pt.selI_some pt.bet_irr pt.bet_trans e).2.1
    rw [Bool.and_eq_true] at h2
    have hs := pt.pick_sub i ts
    have hm : ∀ x ∈ pt.pick i ts, x ∈ ts := fun x hx => hs.subset hx
    have ha := asked_sub hg hs
    have ht : team ts (pt.ids (pt.pick i ts)) = true := by rw [pt.team_is (good_asc hg) hm]; exact h2.1
    rw [h1]
    refine ⟨is_sub hg hs h2.1, ?_⟩
    have hc : andI (pt.orS (pt.pick i ts)) q = q := by
      have h3 := h2.2
      unfold cS at h3
      rw [Bool.and_eq_true] at h3
      simpa using h3.1
    have e2 : andI q (pt.orS (pt.pick i ts)) = q := by rw [andI_comm]; exact hc
    unfold ansMs
    rw [ha, ht, hq, pt.skN_all (good_asc hg) hm, e2]
    simp
set_option maxRecDepth 100000 in
theorem bits4 : ∀ a b : Fin 16, (a.val - (a.val &&& b.val)) &&& b.val = 0 ∧ (a.val - (a.val &&& b.val)) ||| (b.val &&& a.val) = a.val ∧ (a.val &&& b.val) ≤ a.val := by decide
/-- what a team lacks -/
theorem miss_form (ts : List Ps) (xs : List Int) (q : Int) : ansMs ts xs q = .tuple #[.int .i64 0, .bool false] ∨
    ∃ al mi z : Int, ansMs ts xs q = .tuple #[.int .i64 mi, .bool true] ∧ ansSk ts xs = .tuple #[.int .i64 al, .bool true] ∧ bits .and .i64 mi al = 0 ∧ bits .and .i64 al q = z ∧ bits .or .i64 mi z = q := by
  cases e : (asked ts xs && (team ts xs && btw 0 q 15))
  · left; unfold ansMs; rw [e]; rfl
  · right
    have e1 := e
    rw [Bool.and_eq_true, Bool.and_eq_true] at e1
    obtain ⟨ha, ht, hq⟩ := e1
    have hq2 : 0 ≤ q ∧ q ≤ 15 := btw_yes hq
    have hal := skN_bd (xs := xs) (asked_bd ha) xs.length
    obtain ⟨a, rfl⟩ := pt.nat_of hq2
    obtain ⟨b, hb⟩ := pt.nat_of hal
    obtain ⟨f1, f2, f3⟩ := bits4 a b
    have hmi : (a.val : Int) - andI (a.val : Int) (b.val : Int) = ((a.val - (a.val &&& b.val) : Nat) : Int) := by rw [pt.andI_nat]; omega
    have hz : andI (b.val : Int) (a.val : Int) = ((b.val &&& a.val : Nat) : Int) := pt.andI_nat _ _
    have ha16 := a.isLt
    have hb16 := b.isLt
    have hzl : (b.val &&& a.val) ≤ a.val := by rw [Nat.and_comm]; exact f3
    refine ⟨(b.val : Int), ((a.val - (a.val &&& b.val) : Nat) : Int), ((b.val &&& a.val : Nat) : Int), ?_, ?_, ?_, ?_, ?_⟩
    · unfold ansMs; rw [e, hb, ← hmi]; rfl
    · unfold ansSk; rw [ha, ht, hb]; rfl
    · refine (show bits .and .i64 _ _ = andI _ _ from and_wrap2 (by omega) (by omega)).trans ?_
      rw [pt.andI_nat, f1]; rfl
    · refine (show bits .and .i64 _ _ = andI _ _ from and_wrap2 (by omega) (by omega)).trans hz
    · refine (show bits .or .i64 _ _ = orI _ _ from or_wrap (by omega) (by omega)).trans ?_
      have : orI ((a.val - (a.val &&& b.val) : Nat) : Int) ((b.val &&& a.val : Nat) : Int) = (((a.val - (a.val &&& b.val)) ||| (b.val &&& a.val) : Nat) : Int) := by simp [orI]
      rw [this, f2]
theorem is_form (ts : List Ps) (xs : List Int) : ∃ a b : Bool, ansIs ts xs = .tuple #[.bool a, .bool b] ∧ (gtOk ts xs = true → a = true) := by
  cases e : asked ts xs
  · refine ⟨false, false, by unfold ansIs; rw [e]; rfl, fun h => ?_⟩
    unfold gtOk at h; rw [e] at h; simp at h
  · refine ⟨team ts xs, true, by unfold ansIs; rw [e]; rfl, fun h => ?_⟩
    unfold gtOk at h; rw [e] at h
    rw [Bool.true_and, Bool.and_eq_true] at h
    exact h.1
theorem gt_at {ts : List Ps} {xs : List Int} {k : Nat} (hk : k < (gtPs ts xs).length) : ∃ t, ts[k]? = some t ∧ (gtPs ts xs)[k]? = some (trip xs t) ∧ 0 ≤ t.trips ∧ t.trips ≤ 500 := by
  cases e : gtOk ts xs
  · unfold gtPs at hk; rw [e] at hk; simp at hk
  · have e1 : gtPs ts xs = gone ts xs := by unfold gtPs; rw [e]; rfl
    rw [e1] at hk ⊢
    have hl : k < ts.length := by unfold gone at hk; simpa using hk
    have ha : asked ts xs = true := by unfold gtOk at e; rw [Bool.and_eq_true, Bool.and_eq_true] at e; exact e.1.1
    have ht := List.getElem?_eq_getElem hl
    have hb := (asked_bd ha _ (List.mem_of_getElem? ht)).2
    exact ⟨_, ht, by unfold gone; rw [List.getElem?_map, ht]; rfl, hb.1, hb.2⟩
theorem sk_form (ts : List Ps) (xs : List Int) : ∃ (v : Int) (b : Bool), ansSk ts xs = .tuple #[.int .i64 v, .bool b] := by
  unfold ansSk
  split
  · exact ⟨_, _, rfl⟩
  · exact ⟨_, _, rfl⟩
/-- the split teams -/
theorem st_is {ts : List Ps} (hg : psg.good ts = true) : stTss ts = (pt.psplit (pt.mostS ts) ts).map pt.ids := by
  unfold stTss
  rw [hg, if_pos rfl, pt.split_is (good_asc hg) _ _ (mostS_le ts) (by have := Nat.pow_pos (n := ts.length) (show 0 < 2 by omega); omega), pt.pick_full]
theorem st_facts (ts : List Ps) : (∀ x ∈ stTss ts, ansIs ts x = .tuple #[.bool true, .bool true]) ∧ (stTss ts).flatten.Nodup ∧ (stTss ts).length ≤ 3 ∧ ∀ x ∈ stTss ts, x.length ≤ 5 := by
  cases hg : psg.good ts
  · have e : stTss ts = [] := by unfold stTss; rw [hg]; rfl
    rw [e]; simp
  · rw [st_is hg]
    have hm : pt.mostS ts ≤ pt.prs ts := by rw [pt.mostS_is]; omega
    obtain ⟨h1, h2⟩ := pt.psplit_ok (pt.mostS ts) (good_asc hg) (good_okS hg) hm
    refine ⟨?_, ?_, ?_, ?_⟩
    · intro x hx
      obtain ⟨s, hs, rfl⟩ := List.mem_map.1 hx
      obtain ⟨q1, q2⟩ := pt.mem_teams.1 (h1 s hs)
      exact is_sub hg q1 q2
    · rw [← List.flatMap_def]; exact h2
    · rw [List.length_map, pt.psplit_len]; exact mostS_le ts
    · intro x hx
      obtain ⟨s, hs, rfl⟩ := List.mem_map.1 hx
      obtain ⟨q1, q2⟩ := pt.mem_teams.1 (h1 s hs)
      rw [pt.ids_len]; exact (pt.teamS_len q2).2
/-- the counts -/
theorem ct_form (ts : List Ps) : ∃ (n a : Nat) (f : Bool), ansCt ts = .tuple #[.int .i64 (n : Int), .int .i64 (a : Int), .bool f] ∧ a ≤ n ∧ n ≤ 1024 ∧ (f = true → (n = 0 ↔ (stTss ts).length = 0)) := by
  cases hg : psg.good ts
  · exact ⟨0, 0, false, by unfold ansCt; rw [hg]; rfl, Nat.le_refl _, by omega, fun h => by cases h⟩
  · refine ⟨(pt.teams ts).length, (pt.teams ts).countP (fun s => decide (20 ≤ pt.trS s)), true, by unfold ansCt; rw [hg]; rfl, List.countP_le_length, ?_, fun _ => ?_⟩
    · rw [← pt.count_teams]
      exact Nat.le_trans (cnt_le _ _) (pow_le (good_len hg)).2
    · rw [st_is hg, List.length_map, pt.psplit_len, pt.mostS_is, List.length_eq_zero_iff, pt.no_team (good_asc hg) (good_okS hg)]
      omega
/-- nobody is seen twice -/
theorem not_seen {L : List (List Int)} (h : L.flatten.Nodup) {i k : Nat} {x : List Int} {y : Int} (hx : L[i]? = some x) (hy : x[k]? = some y) : y ∉ (L.take i).flatten ++ x.take k := by
  obtain ⟨hi, rfl⟩ := List.getElem?_eq_some_iff.1 hx
  obtain ⟨hk, rfl⟩ := List.getElem?_eq_some_iff.1 hy
  have e1 : L = L.take i ++ (L[i] :: L.drop (i + 1)) := by rw [← List.drop_eq_getElem_cons hi, List.take_append_drop]
  have e2 : L[i] = L[i].take k ++ (L[i][k] :: L[i].drop (k + 1)) := by rw [← List.drop_eq_getElem_cons hk, List.take_append_drop]
  have e3 : L.flatten = ((L.take i).flatten ++ L[i].take k) ++ (L[i][k] :: (L[i].drop (k + 1) ++ (L.drop (i + 1)).flatten)) := by
    have h1 : L.flatten = (L.take i).flatten ++ (L[i] ++ (L.drop (i + 1)).flatten) := by
      have := congrArg List.flatten e1
      rw [List.flatten_append, List.flatten_cons] at this
      exact this
    rw [h1]
    have h2 : L[i] ++ (L.drop (i + 1)).flatten = (L[i].take k ++ (L[i][k] :: L[i].drop (k + 1))) ++ (L.drop (i + 1)).flatten := by rw [← e2]
    rw [h2]
    simp only [List.append_assoc, List.cons_append]
  rw [e3] at h
  intro hm
  rw [List.nodup_append] at h
  exact h.2.2 _ hm _ (List.mem_cons_self ..) rfl
theorem seen_len {L : List (List Int)} (h3 : L.length ≤ 3) (h5 : ∀ x ∈ L, x.length ≤ 5) : L.flatten.length ≤ 15 := by
  have : ∀ (M : List (List Int)), (∀ x ∈ M, x.length ≤ 5) → M.flatten.length ≤ 5 * M.length := by
    intro M
    induction M with
    | nil => intro _; simp
    | cons x M ih =>
      intro hM
      rw [List.flatten_cons, List.length_append, List.length_cons]
      have h1 := hM x (List.mem_cons_self ..)
      have h2 := ih (fun y hy => hM y (List.mem_cons_of_mem _ hy))
      omega
  have := this L h5
  omega
end Go.Proofs.Ytidofckanadkpaa.fq
