/-
  The people whose Ids are asked for, by the program.
  Conditions: both lists have at most 2000000 elements and lie in one block each; names have at most 1048576 bytes.
-/
import Derived.Test.YtidofckanadkpaaPiC
import Derived.Deep.RegionHeld3
namespace Go.Proofs.Ytidofckanadkpaa.pi5
open Go.RowKit
open reads base inn ty rowi psk psl psm psn pso psp pq
set_option linter.unusedVariables false
set_option linter.unusedSimpArgs false

/-- what lies open in a loop over people: the person's box, a list of one's own -/
def SG (w : World) (B : Nat) (W0 : World) (X : Nat) (t : Ps) (e : TypeId) (size : Nat) (v : Value) (n : Nat) (us : List Value) : Prop := psg.SX w B W0 X t ∧ w.ownsRow B e size v n us
section
variable {w w' : World} {B : Nat} {W0 : World} {X : Nat} {t : Ps} {e : TypeId} {size : Nat} {v : Value} {n : Nat} {us : List Value}
theorem sg_mk (h : SG w B W0 X t e size v n us) : w.cell? ⟨X, 0, none⟩ = some (.int .i64 t.id) ∧ w.cell? ⟨X, 1, none⟩ = some (.string t.name) ∧ w.cell? ⟨X, 2, none⟩ = some (.int .i64 t.skills) ∧ w.cell? ⟨X, 3, none⟩ = some (.int .i64 t.trips) ∧ (∀ b o, b < B → w.cell? ⟨b, o, none⟩ = W0.cell? ⟨b, o, none⟩) ∧ SG w B W0 X t e size v n us :=
  ⟨h.1.1.cell 0, h.1.1.cell 1, h.1.1.cell 2, h.1.1.cell 3, fun b o hb => h.1.2.cell (p := ⟨b, o, none⟩) hb, h⟩
theorem SG.drew (h : SG w B W0 X t e size v n us) : SG w.drew B W0 X t e size v n us := ⟨h.1.drew, h.2⟩
theorem SG.step (h : SG w B W0 X t e size v n us) (hB : B ≤ W0.heap.size) (b : Below w.heap.size w w') : SG w' B W0 X t e size v n us :=
  ⟨⟨h.1.1.below b h.1.1.lt, h.1.2.trans (b.mono (Nat.le_trans hB h.1.2.size))⟩, row_below h.2 b⟩
/-- a person is put into a new box -/
theorem SG.box {wr : World} (hB : B ≤ W0.heap.size) (hb : Below B W0 wr) (ho : wr.ownsRow B e size v n us) (t : Ps) : SG (wr.alloc (.cells #[.int .i64 t.id, .string t.name, .int .i64 t.skills, .int .i64 t.trips] 41)) B W0 wr.heap.size t e size v n us :=
  ⟨⟨Blk.new _ _ _, hb.trans (((Below.refl _ _).alloc (Nat.le_refl _) _).mono (Nat.le_trans hB hb.size))⟩, ho.alloc _⟩
end
set_option maxHeartbeats 8000000 in
set_option maxRecDepth 100000 in
theorem withIds_is (A : Option Addr) (n cap : Nat) (ts : List Ps) (A' : Option Addr) (m cap' : Nat) (xs : List Int) (w : World) (hn : n ≤ 2000000) (hm : m ≤ 2000000) (hs : Hid (∀ t ∈ ts, t.name.size ≤ 1048576)) (hts : Hid (PsAt w w.heap.size A n ts)) (hxs : Hid (InAt w w.heap.size A' m xs)) :
    Calls Try.prog 67 #[.slice A n cap, .slice A' m cap'] w (PPost (if psg.good ts then pt.gre ts xs else []) (asked ts xs) w) := by
  have hL : Hid (ts.length = n) := Lib.hid hts.out.1
  have hL' : Hid (xs.length = m) := Lib.hid hxs.out.1
  cases hg : psg.good ts
  · have HG := Lib.hid hg
    have HF := Lib.hid (show asked ts xs = false by unfold asked; rw [hg]; simp)
    clear hg
    rw [HF.out, if_neg (by simp)]
    go_enter Try.func67, Try.ntmps67
    go_wp2_with fail
    refine (people_is A n cap ts false _ hn hs hts HG).mono ?_
    rintro e w1 ⟨rfl, b1⟩
    have HB := Lib.hid b1
    have hBs := b1.size
    clear b1
    have HR := Lib.hid (show (w1.alloc (.cells #[] 41)).ownsRow w.heap.size 41 4 (.slice (some ⟨w1.heap.size, 0, none⟩) 0 0) 0 [] from World.ownsRow_made w1 #[] 0 hBs (by decide) (by simp))
    go_wp2_with fail
    go_ret2
    exact ⟨.slice (some ⟨w1.heap.size, 0, none⟩) 0 0, rfl, HR.out, HB.out.alloc hBs _⟩
  have HG := Lib.hid hg
  have hn10 : n ≤ 10 := by rw [← hL.out]; exact good_len hg
  have HA := Lib.hid (show asked ts xs = decide ((pt.gre ts xs).length = xs.length) by rw [pt.gre_asked (good_asc hg) (good_id hg)]; unfold asked; rw [hg]; simp)
  clear hg
  obtain ⟨P, HP⟩ : ∃ P, Hid (pt.gre ts xs = P) := ⟨_, Lib.hid rfl⟩
  obtain ⟨q, HQ⟩ : ∃ q, Hid (asked ts xs = q) := ⟨_, Lib.hid rfl⟩
  have HQP := Lib.hid (show q = decide (P.length = m) by rw [← HQ.out, HA.out, HP.out, hL'.out])
  rw [if_pos rfl, HP.out, HQ.out]
  obtain ⟨B, HBB⟩ : ∃ B, Hid (w.heap.size = B) := ⟨_, Lib.hid rfl⟩
  obtain ⟨W0, HW0⟩ : ∃ W0, Hid (w = W0) := ⟨_, Lib.hid rfl⟩
  have HT := Lib.hid (show PsAt W0 B A n ts by rw [← HBB.out, ← HW0.out]; exact hts.out)
  have HX0 := Lib.hid (show InAt W0 B A' m xs by rw [← HBB.out, ← HW0.out]; exact hxs.out)
  have HWB := Lib.hid (show B ≤ W0.heap.size by rw [← HW0.out, ← HBB.out]; exact Nat.le_refl _)
  have HB1 := Lib.hid (show ∀ v, Below B W0 v → Below w.heap.size w v from fun v hv => by rw [HBB.out, HW0.out]; exact hv)
  have HBL := Lib.hid (show ∀ v, Below w.heap.size w v → Below B W0 v from fun v hv => by rw [← HBB.out, ← HW0.out]; exact hv)
  obtain ⟨i0, hi, hz0, hz1, hz2⟩ := info_parts infoPs
  go_enter Try.func67, Try.ntmps67
  go_wp2_with fail
  refine (people_is A n cap ts true _ hn hs hts HG).mono ?_
  rintro e w1 ⟨rfl, b1⟩
  have HR1 := Lib.hid (HBL.out _ b1)
  have hB1s : B ≤ w1.heap.size := Nat.le_trans HWB.out HR1.out.size
  have HO1 := Lib.hid (show (w1.alloc (.cells #[] 41)).ownsRow B 41 4 (.slice (some ⟨w1.heap.size, 0, none⟩) 0 0) 0 [] from World.ownsRow_made w1 #[] 0 hB1s (by decide) (by simp))
  have HA1 := Lib.hid (HR1.out.alloc hB1s (.cells #[] 41))
  clear b1 hts hxs
  go_wp2_with fail
  go_loopw [6, 16] (fun v i wr => ∃ (k p : Nat) (A3 : Option Addr) (c3 : Nat) (ps : List Ps), k ≤ n ∧ p ≤ k ∧ i = .int .i64 k ∧ v = .slice A3 p c3 ∧ Hid (ps.length = p) ∧ Hid (pt.gre (ts.take k) xs = ps) ∧ Hid (wr.ownsRow B 41 4 (.slice A3 p c3) p (flatPs ps)) ∧ Below B W0 wr) (fun _ i _ => n - (intOf i).toNat)
  case atStart => exact ⟨0, 0, _, _, [], Nat.zero_le _, Nat.zero_le _, rfl, rfl, Lib.hid rfl, Lib.hid rfl, HO1, HA1.out⟩
  case round =>
    obtain ⟨k, p, A3, c3, ps, hk, hpk, rfl, rfl, HPL, HGR, HO, hBr⟩ := hrel
    have HR := Lib.hid hBr
    by_cases hlt : k < n
    · obtain ⟨t, htk⟩ : ∃ t, ts[k]? = some t := ⟨_, List.getElem?_eq_getElem (by rw [hL.out]; exact hlt)⟩
      obtain ⟨g, rfl, hg, h0, h1, h2, h3⟩ := (HT.out.below hBr).2 k t htk
      have HGT := Lib.hid (pt.gre_take xs htk)
      obtain ⟨X, HX⟩ : ∃ X, Hid (wr.heap.size = X) := ⟨_, Lib.hid rfl⟩
      obtain ⟨W1, HW1⟩ : ∃ W1, Hid (wr.alloc (.cells #[.int .i64 t.id, .string t.name, .int .i64 t.skills, .int .i64 t.trips] 41) = W1) := ⟨_, Lib.hid rfl⟩
      have HSG := Lib.hid (show SG W1 B W0 X t 41 4 (.slice A3 p c3) p (flatPs ps) by rw [← HW1.out, ← HX.out]; exact SG.box HWB.out hBr HO.out t)
      clear htk hBr
      have hki : (k : Int) < (n : Int) := by omega
      have hk0 : 0 ≤ (k : Int) := by omega
      have hkd : decide (k < n) = true := by simpa using hlt
      go_wp2_with fail
      rw [HW1.out, HX.out]
      clear HW1 h0 h1 h2 h3
      have HLT := Lib.hid hlt
      by_cases hpm : p < m
      · have hpd : decide (p < m) = true := by simpa using hpm
        have hpi : (p : Int) < (m : Int) := by omega
        have hp0 : 0 ≤ (p : Int) := by omega
        obtain ⟨y, hyp⟩ := at_lt hL'.out hpm
        obtain ⟨g', rfl, hg', y0⟩ := HX0.out.2 p y hyp
        have HYP := Lib.hid hyp
        clear hyp
        by_cases hy : y = t.id
        · have HN := Lib.hid (show pt.gre (ts.take (k + 1)) xs = ps ++ [t] by rw [HGT.out, HGR.out, HPL.out, HYP.out, if_pos (by rw [hy])])
          have hyd : (y == t.id) = true := by simpa using hy
          have hyd2 : decide (y = t.id) = true := by simpa using hy
          clear hy
          refine wp_region_held_drew (S := (fun w' => w'.cell? ⟨X, 0, none⟩ = some (.int .i64 t.id) ∧ w'.cell? ⟨X, 1, none⟩ = some (.string t.name) ∧ w'.cell? ⟨X, 2, none⟩ = some (.int .i64 t.skills) ∧ w'.cell? ⟨X, 3, none⟩ = some (.int .i64 t.trips) ∧ (∀ b o, b < B → w'.cell? ⟨b, o, none⟩ = W0.cell? ⟨b, o, none⟩) ∧ SG w' B W0 X t 41 4 (.slice A3 p c3) p (flatPs ps))) (by kernel_rfl) ?_ (fun hHeld => ?_)
          · exact sg_mk HSG.out.drew
          refine' wpAnyH_take (i := 0) (v := ?vr1_0) rfl (by kernel_rfl) (by kernel_rfl) (by kernel_rfl) (fun _ _ _ h => h) (Or.inl ⟨by rfl, ?hyr1_0⟩) (by assumption) ?restr1_0
          case hyr1_0 => (intro w hSw; (try dsimp only at hSw); go_simp; try (with_reducible rfl))
          simp only [Act.put, List.getElem_toArray, List.getElem_cons_succ, List.getElem_cons_zero, List.setIfInBounds_toArray, List.set_cons_zero, List.set_cons_succ]
          refine' wpAnyH_take (i := 1) (v := ?vr1_1) rfl (by kernel_rfl) (by kernel_rfl) (by kernel_rfl) (fun _ _ _ h => h) (Or.inl ⟨by rfl, ?hyr1_1⟩) (by assumption) ?restr1_1
          case hyr1_1 => (intro w hSw; (try dsimp only at hSw); go_simp; try (with_reducible rfl))
          simp only [Act.put, List.getElem_toArray, List.getElem_cons_succ, List.getElem_cons_zero, List.setIfInBounds_toArray, List.set_cons_zero, List.set_cons_succ]
          refine' wpAnyH_take (i := 2) (v := ?vr1_2) rfl (by kernel_rfl) (by kernel_rfl) (by kernel_rfl) (fun _ _ _ h => h) (Or.inl ⟨by rfl, ?hyr1_2⟩) (by assumption) ?restr1_2
          case hyr1_2 => (intro w hSw; (try dsimp only at hSw); go_simp; try (with_reducible rfl))
          simp only [Act.put, List.getElem_toArray, List.getElem_cons_succ, List.getElem_cons_zero, List.setIfInBounds_toArray, List.set_cons_zero, List.set_cons_succ]
          refine' wpAnyH_take (i := 3) (v := ?vr1_3) rfl (by kernel_rfl) (by kernel_rfl) (by kernel_rfl) (fun _ _ _ h => h) (Or.inl ⟨by rfl, ?hyr1_3⟩) (by assumption) ?restr1_3
          case hyr1_3 => (intro w hSw; (try dsimp only at hSw); go_simp; try (with_reducible rfl))
          simp only [Act.put, List.getElem_toArray, List.getElem_cons_succ, List.getElem_cons_zero, List.setIfInBounds_toArray, List.set_cons_zero, List.set_cons_succ]
          refine' wpAnyH_take (i := 4) (v := ?vr1_4) rfl (by kernel_rfl) (by kernel_rfl) (by kernel_rfl) (fun _ _ _ h => h) (Or.inl ⟨by rfl, ?hyr1_4⟩) (by assumption) ?restr1_4
          case hyr1_4 => (intro w hSw; (try dsimp only at hSw); go_simp; try (with_reducible rfl))
          simp only [Act.put, List.getElem_toArray, List.getElem_cons_succ, List.getElem_cons_zero, List.setIfInBounds_toArray, List.set_cons_zero, List.set_cons_succ]
          refine' wpAnyH_take (i := 5) (v := ?vr1_5) rfl (by kernel_rfl) (by kernel_rfl) (by kernel_rfl) (fun _ _ _ h => h) (Or.inl ⟨by rfl, ?hyr1_5⟩) (by assumption) ?restr1_5
          case hyr1_5 => (intro w hSw; (try dsimp only at hSw); go_simp; try (with_reducible rfl))
          simp only [Act.put, List.getElem_toArray, List.getElem_cons_succ, List.getElem_cons_zero, List.setIfInBounds_toArray, List.set_cons_zero, List.set_cons_succ]
          refine' wpAnyH_take (i := 6) (v := ?vr1_6) rfl (by kernel_rfl) (by kernel_rfl) (by kernel_rfl) (fun _ _ _ h => h) (Or.inl ⟨by rfl, ?hyr1_6⟩) (by assumption) ?restr1_6
          case hyr1_6 => (intro w hSw; (try dsimp only at hSw); go_simp; try (with_reducible rfl))
          simp only [Act.put, List.getElem_toArray, List.getElem_cons_succ, List.getElem_cons_zero, List.setIfInBounds_toArray, List.set_cons_zero, List.set_cons_succ]
          refine' wpAnyH_take (i := 7) (v := ?vr1_7) rfl (by kernel_rfl) (by kernel_rfl) (by kernel_rfl) (fun _ _ _ h => h) (Or.inl ⟨by rfl, ?hyr1_7⟩) (by assumption) ?restr1_7
          case hyr1_7 => (intro w hSw; (try dsimp only at hSw); go_simp; try (with_reducible rfl))
          simp only [Act.put, List.getElem_toArray, List.getElem_cons_succ, List.getElem_cons_zero, List.setIfInBounds_toArray, List.set_cons_zero, List.set_cons_succ]
          refine' wpAnyH_take (i := 8) (v := ?vr1_8) rfl (by kernel_rfl) (by kernel_rfl) (by kernel_rfl) (fun _ _ _ h => h) (Or.inl ⟨by rfl, ?hyr1_8⟩) (by assumption) ?restr1_8
          case hyr1_8 => (intro w hSw; (try dsimp only at hSw); go_simp; try (with_reducible rfl))
          simp only [Act.put, List.getElem_toArray, List.getElem_cons_succ, List.getElem_cons_zero, List.setIfInBounds_toArray, List.set_cons_zero, List.set_cons_succ]
          refine' wpAnyH_take (i := 9) (v := ?vr1_9) rfl (by kernel_rfl) (by kernel_rfl) (by kernel_rfl) (fun _ _ _ h => h) (Or.inl ⟨by rfl, ?hyr1_9⟩) (by assumption) ?restr1_9
          case hyr1_9 => (intro w hSw; (try dsimp only at hSw); go_simp; try (with_reducible rfl))
          simp only [Act.put, List.getElem_toArray, List.getElem_cons_succ, List.getElem_cons_zero, List.setIfInBounds_toArray, List.set_cons_zero, List.set_cons_succ]
          refine' wpAnyH_take (i := 10) (v := ?vr1_10) rfl (by kernel_rfl) (by kernel_rfl) (by kernel_rfl) (fun _ _ _ h => h) (Or.inl ⟨by rfl, ?hyr1_10⟩) (by assumption) ?restr1_10
          case hyr1_10 => (intro w hSw; (try dsimp only at hSw); go_simp; try (with_reducible rfl))
          simp only [Act.put, List.getElem_toArray, List.getElem_cons_succ, List.getElem_cons_zero, List.setIfInBounds_toArray, List.set_cons_zero, List.set_cons_succ]
          refine' wpAnyH_take (i := 11) (v := ?vr1_11) rfl (by kernel_rfl) (by kernel_rfl) (by kernel_rfl) (fun _ _ _ h => h) (Or.inl ⟨by rfl, ?hyr1_11⟩) (by assumption) ?restr1_11
          case hyr1_11 => (intro w hSw; (try dsimp only at hSw); go_simp; try (with_reducible rfl))
          simp only [Act.put, List.getElem_toArray, List.getElem_cons_succ, List.getElem_cons_zero, List.setIfInBounds_toArray, List.set_cons_zero, List.set_cons_succ]
          refine' wpAnyH_take (i := 12) (v := ?vr1_12) rfl (by kernel_rfl) (by kernel_rfl) (by kernel_rfl) (fun _ _ _ h => h) (Or.inl ⟨by rfl, ?hyr1_12⟩) (by assumption) ?restr1_12
          case hyr1_12 => (intro w hSw; (try dsimp only at hSw); go_simp; try (with_reducible rfl))
          simp only [Act.put, List.getElem_toArray, List.getElem_cons_succ, List.getElem_cons_zero, List.setIfInBounds_toArray, List.set_cons_zero, List.set_cons_succ]
          refine' wpAnyH_take (i := 13) (v := ?vr1_13) rfl (by kernel_rfl) (by kernel_rfl) (by kernel_rfl) (fun _ _ _ h => h) (Or.inl ⟨by rfl, ?hyr1_13⟩) (by assumption) ?restr1_13
          case hyr1_13 => (intro w hSw; (try dsimp only at hSw); go_simp; try (with_reducible rfl))
          simp only [Act.put, List.getElem_toArray, List.getElem_cons_succ, List.getElem_cons_zero, List.setIfInBounds_toArray, List.set_cons_zero, List.set_cons_succ]
          refine' wpAnyH_take (i := 14) (v := ?vr1_14) rfl (by kernel_rfl) (by kernel_rfl) (by kernel_rfl) (fun _ _ _ h => h) (Or.inl ⟨by rfl, ?hyr1_14⟩) (by assumption) ?restr1_14
          case hyr1_14 => (intro w hSw; (try dsimp only at hSw); go_simp; try (with_reducible rfl))
          simp only [Act.put, List.getElem_toArray, List.getElem_cons_succ, List.getElem_cons_zero, List.setIfInBounds_toArray, List.set_cons_zero, List.set_cons_succ]
          refine wpAnyH_done (by kernel_rfl) ?_ _
          obtain ⟨W2, HW2⟩ : ∃ W2, Hid (W1.drew = W2) := ⟨_, Lib.hid rfl⟩
          rw [HW2.out] at hHeld ⊢
          have HS2 := Lib.hid hHeld.2.2.2.2.2
          clear hHeld HSG HW2
          have cX0 := HS2.out.1.1.cell 0
          have cX1 := HS2.out.1.1.cell 1
          have cX2 := HS2.out.1.1.cell 2
          have cX3 := HS2.out.1.1.cell 3
          go_wp2_with (at_builtin; refine wpList_append_own _ rfl _ _ 24 rfl B 41 i0 _ 4 40 Try.underlying24 hi hz0 hz1 hz2 rfl (by decide) _ _ _ rfl (HS2.out.2.alloc _) ⟨W2.heap.size, 0, none⟩ 1 1 [.int .i64 t.id, .string t.name, .int .i64 t.skills, .int .i64 t.trips] rfl rfl (World.news_of_block (alloc_at rfl)) (by simp [Value.oneCell']) (by unfold maxLen; omega) (by omega) (by simp; have := HS2.out.1.2.size; have := HWB.out; omega) ?_; intro v' w9 hown' hgrow _)
          obtain ⟨A9, c9, rfl⟩ := row_slice hown'
          go_roundw
          case rel =>
            refine ⟨k + 1, p + 1, A9, c9, ps ++ [t], by omega, by omega, by go_num, rfl, Lib.hid (by simp [HPL.out]), HN, Lib.hid (by rw [flatPs_app]; exact hown'), ?_⟩
            exact (HS2.out.1.2.alloc (Nat.le_trans HWB.out HS2.out.1.2.size) _).grown hgrow (by simp; have := HS2.out.1.2.size; have := HWB.out; omega) (fun j ej => (HS2.out.2.lt j ej).1)
          case measure => simp [intOf]; omega
        · have HN := Lib.hid (show pt.gre (ts.take (k + 1)) xs = ps by rw [HGT.out, HGR.out, HPL.out, HYP.out, if_neg (by simpa using hy), List.append_nil])
          have hyd : (y == t.id) = false := by simpa using hy
          have hyd2 : decide (y = t.id) = false := by simpa using hy
          refine wp_region_held_drew (S := (fun w' => w'.cell? ⟨X, 0, none⟩ = some (.int .i64 t.id) ∧ w'.cell? ⟨X, 1, none⟩ = some (.string t.name) ∧ w'.cell? ⟨X, 2, none⟩ = some (.int .i64 t.skills) ∧ w'.cell? ⟨X, 3, none⟩ = some (.int .i64 t.trips) ∧ (∀ b o, b < B → w'.cell? ⟨b, o, none⟩ = W0.cell? ⟨b, o, none⟩) ∧ SG w' B W0 X t 41 4 (.slice A3 p c3) p (flatPs ps))) (by kernel_rfl) ?_ (fun hHeld => ?_)
          · exact sg_mk HSG.out.drew
          refine' wpAnyH_take (i := 0) (v := ?vr2_0) rfl (by kernel_rfl) (by kernel_rfl) (by kernel_rfl) (fun _ _ _ h => h) (Or.inl ⟨by rfl, ?hyr2_0⟩) (by assumption) ?restr2_0
          case hyr2_0 => (intro w hSw; (try dsimp only at hSw); go_simp; try (with_reducible rfl))
          simp only [Act.put, List.getElem_toArray, List.getElem_cons_succ, List.getElem_cons_zero, List.setIfInBounds_toArray, List.set_cons_zero, List.set_cons_succ]
          refine' wpAnyH_take (i := 1) (v := ?vr2_1) rfl (by kernel_rfl) (by kernel_rfl) (by kernel_rfl) (fun _ _ _ h => h) (Or.inl ⟨by rfl, ?hyr2_1⟩) (by assumption) ?restr2_1
          case hyr2_1 => (intro w hSw; (try dsimp only at hSw); go_simp; try (with_reducible rfl))
          simp only [Act.put, List.getElem_toArray, List.getElem_cons_succ, List.getElem_cons_zero, List.setIfInBounds_toArray, List.set_cons_zero, List.set_cons_succ]
          refine' wpAnyH_take (i := 2) (v := ?vr2_2) rfl (by kernel_rfl) (by kernel_rfl) (by kernel_rfl) (fun _ _ _ h => h) (Or.inl ⟨by rfl, ?hyr2_2⟩) (by assumption) ?restr2_2
          case hyr2_2 => (intro w hSw; (try dsimp only at hSw); go_simp; try (with_reducible rfl))
          simp only [Act.put, List.getElem_toArray, List.getElem_cons_succ, List.getElem_cons_zero, List.setIfInBounds_toArray, List.set_cons_zero, List.set_cons_succ]
          refine' wpAnyH_take (i := 3) (v := ?vr2_3) rfl (by kernel_rfl) (by kernel_rfl) (by kernel_rfl) (fun _ _ _ h => h) (Or.inl ⟨by rfl, ?hyr2_3⟩) (by assumption) ?restr2_3
          case hyr2_3 => (intro w hSw; (try dsimp only at hSw); go_simp; try (with_reducible rfl))
          simp only [Act.put, List.getElem_toArray, List.getElem_cons_succ, List.getElem_cons_zero, List.setIfInBounds_toArray, List.set_cons_zero, List.set_cons_succ]
          refine' wpAnyH_take (i := 4) (v := ?vr2_4) rfl (by kernel_rfl) (by kernel_rfl) (by kernel_rfl) (fun _ _ _ h => h) (Or.inl ⟨by rfl, ?hyr2_4⟩) (by assumption) ?restr2_4
          case hyr2_4 => (intro w hSw; (try dsimp only at hSw); go_simp; try (with_reducible rfl))
          simp only [Act.put, List.getElem_toArray, List.getElem_cons_succ, List.getElem_cons_zero, List.setIfInBounds_toArray, List.set_cons_zero, List.set_cons_succ]
          refine' wpAnyH_take (i := 5) (v := ?vr2_5) rfl (by kernel_rfl) (by kernel_rfl) (by kernel_rfl) (fun _ _ _ h => h) (Or.inl ⟨by rfl, ?hyr2_5⟩) (by assumption) ?restr2_5
          case hyr2_5 => (intro w hSw; (try dsimp only at hSw); go_simp; try (with_reducible rfl))
          simp only [Act.put, List.getElem_toArray, List.getElem_cons_succ, List.getElem_cons_zero, List.setIfInBounds_toArray, List.set_cons_zero, List.set_cons_succ]
          refine' wpAnyH_take (i := 6) (v := ?vr2_6) rfl (by kernel_rfl) (by kernel_rfl) (by kernel_rfl) (fun _ _ _ h => h) (Or.inl ⟨by rfl, ?hyr2_6⟩) (by assumption) ?restr2_6
          case hyr2_6 => (intro w hSw; (try dsimp only at hSw); go_simp; try (with_reducible rfl))
          simp only [Act.put, List.getElem_toArray, List.getElem_cons_succ, List.getElem_cons_zero, List.setIfInBounds_toArray, List.set_cons_zero, List.set_cons_succ]
          refine' wpAnyH_take (i := 7) (v := ?vr2_7) rfl (by kernel_rfl) (by kernel_rfl) (by kernel_rfl) (fun _ _ _ h => h) (Or.inl ⟨by rfl, ?hyr2_7⟩) (by assumption) ?restr2_7
          case hyr2_7 => (intro w hSw; (try dsimp only at hSw); go_simp; try (with_reducible rfl))
          simp only [Act.put, List.getElem_toArray, List.getElem_cons_succ, List.getElem_cons_zero, List.setIfInBounds_toArray, List.set_cons_zero, List.set_cons_succ]
          refine' wpAnyH_take (i := 8) (v := ?vr2_8) rfl (by kernel_rfl) (by kernel_rfl) (by kernel_rfl) (fun _ _ _ h => h) (Or.inl ⟨by rfl, ?hyr2_8⟩) (by assumption) ?restr2_8
          case hyr2_8 => (intro w hSw; (try dsimp only at hSw); go_simp; try (with_reducible rfl))
          simp only [Act.put, List.getElem_toArray, List.getElem_cons_succ, List.getElem_cons_zero, List.setIfInBounds_toArray, List.set_cons_zero, List.set_cons_succ]
          refine' wpAnyH_take (i := 9) (v := ?vr2_9) rfl (by kernel_rfl) (by kernel_rfl) (by kernel_rfl) (fun _ _ _ h => h) (Or.inl ⟨by rfl, ?hyr2_9⟩) (by assumption) ?restr2_9
          case hyr2_9 => (intro w hSw; (try dsimp only at hSw); go_simp; try (with_reducible rfl))
          simp only [Act.put, List.getElem_toArray, List.getElem_cons_succ, List.getElem_cons_zero, List.setIfInBounds_toArray, List.set_cons_zero, List.set_cons_succ]
          refine' wpAnyH_take (i := 10) (v := ?vr2_10) rfl (by kernel_rfl) (by kernel_rfl) (by kernel_rfl) (fun _ _ _ h => h) (Or.inl ⟨by rfl, ?hyr2_10⟩) (by assumption) ?restr2_10
          case hyr2_10 => (intro w hSw; (try dsimp only at hSw); go_simp; try (with_reducible rfl))
          simp only [Act.put, List.getElem_toArray, List.getElem_cons_succ, List.getElem_cons_zero, List.setIfInBounds_toArray, List.set_cons_zero, List.set_cons_succ]
          refine' wpAnyH_take (i := 11) (v := ?vr2_11) rfl (by kernel_rfl) (by kernel_rfl) (by kernel_rfl) (fun _ _ _ h => h) (Or.inl ⟨by rfl, ?hyr2_11⟩) (by assumption) ?restr2_11
          case hyr2_11 => (intro w hSw; (try dsimp only at hSw); go_simp; try (with_reducible rfl))
          simp only [Act.put, List.getElem_toArray, List.getElem_cons_succ, List.getElem_cons_zero, List.setIfInBounds_toArray, List.set_cons_zero, List.set_cons_succ]
          refine' wpAnyH_take (i := 12) (v := ?vr2_12) rfl (by kernel_rfl) (by kernel_rfl) (by kernel_rfl) (fun _ _ _ h => h) (Or.inl ⟨by rfl, ?hyr2_12⟩) (by assumption) ?restr2_12
          case hyr2_12 => (intro w hSw; (try dsimp only at hSw); go_simp; try (with_reducible rfl))
          simp only [Act.put, List.getElem_toArray, List.getElem_cons_succ, List.getElem_cons_zero, List.setIfInBounds_toArray, List.set_cons_zero, List.set_cons_succ]
          refine' wpAnyH_take (i := 13) (v := ?vr2_13) rfl (by kernel_rfl) (by kernel_rfl) (by kernel_rfl) (fun _ _ _ h => h) (Or.inl ⟨by rfl, ?hyr2_13⟩) (by assumption) ?restr2_13
          case hyr2_13 => (intro w hSw; (try dsimp only at hSw); go_simp; try (with_reducible rfl))
          simp only [Act.put, List.getElem_toArray, List.getElem_cons_succ, List.getElem_cons_zero, List.setIfInBounds_toArray, List.set_cons_zero, List.set_cons_succ]
          refine' wpAnyH_take (i := 14) (v := ?vr2_14) rfl (by kernel_rfl) (by kernel_rfl) (by kernel_rfl) (fun _ _ _ h => h) (Or.inl ⟨by rfl, ?hyr2_14⟩) (by assumption) ?restr2_14
          case hyr2_14 => (intro w hSw; (try dsimp only at hSw); go_simp; try (with_reducible rfl))
          simp only [Act.put, List.getElem_toArray, List.getElem_cons_succ, List.getElem_cons_zero, List.setIfInBounds_toArray, List.set_cons_zero, List.set_cons_succ]
          refine wpAnyH_done (by kernel_rfl) ?_ _
          have HS2 := Lib.hid hHeld.2.2.2.2.2
          clear hHeld HSG
          go_wp2_with fail
          go_roundw
          case rel => exact ⟨k + 1, p, A3, c3, ps, by omega, by omega, by go_num, rfl, HPL, HN, Lib.hid HS2.out.2, HS2.out.1.2⟩
          case measure => simp [intOf]; omega
      · have hpd : decide (p < m) = false := by simpa using hpm
        have HN := Lib.hid (show pt.gre (ts.take (k + 1)) xs = ps by rw [HGT.out, HGR.out, HPL.out, List.getElem?_eq_none (by rw [hL'.out]; omega), if_neg (by simp), List.append_nil])
        refine wp_region_held_drew (S := (fun w' => w'.cell? ⟨X, 0, none⟩ = some (.int .i64 t.id) ∧ w'.cell? ⟨X, 1, none⟩ = some (.string t.name) ∧ w'.cell? ⟨X, 2, none⟩ = some (.int .i64 t.skills) ∧ w'.cell? ⟨X, 3, none⟩ = some (.int .i64 t.trips) ∧ (∀ b o, b < B → w'.cell? ⟨b, o, none⟩ = W0.cell? ⟨b, o, none⟩) ∧ SG w' B W0 X t 41 4 (.slice A3 p c3) p (flatPs ps))) (by kernel_rfl) ?_ (fun hHeld => ?_)
        · exact sg_mk HSG.out.drew
        refine' wpAnyH_take (i := 0) (v := ?vr3_0) rfl (by kernel_rfl) (by kernel_rfl) (by kernel_rfl) (fun _ _ _ h => h) (Or.inl ⟨by rfl, ?hyr3_0⟩) (by assumption) ?restr3_0
        case hyr3_0 => (intro w hSw; (try dsimp only at hSw); go_simp; try (with_reducible rfl))
        simp only [Act.put, List.getElem_toArray, List.getElem_cons_succ, List.getElem_cons_zero, List.setIfInBounds_toArray, List.set_cons_zero, List.set_cons_succ]
        refine' wpAnyH_take (i := 1) (v := ?vr3_1) rfl (by kernel_rfl) (by kernel_rfl) (by kernel_rfl) (fun _ _ _ h => h) (Or.inl ⟨by rfl, ?hyr3_1⟩) (by assumption) ?restr3_1
        case hyr3_1 => (intro w hSw; (try dsimp only at hSw); go_simp; try (with_reducible rfl))
        simp only [Act.put, List.getElem_toArray, List.getElem_cons_succ, List.getElem_cons_zero, List.setIfInBounds_toArray, List.set_cons_zero, List.set_cons_succ]
        refine' wpAnyH_take (i := 2) (v := ?vr3_2) rfl (by kernel_rfl) (by kernel_rfl) (by kernel_rfl) (fun _ _ _ h => h) (Or.inl ⟨by rfl, ?hyr3_2⟩) (by assumption) ?restr3_2
        case hyr3_2 => (intro w hSw; (try dsimp only at hSw); go_simp; try (with_reducible rfl))
        simp only [Act.put, List.getElem_toArray, List.getElem_cons_succ, List.getElem_cons_zero, List.setIfInBounds_toArray, List.set_cons_zero, List.set_cons_succ]
        refine' wpAnyH_take (i := 3) (v := ?vr3_3) rfl (by kernel_rfl) (by kernel_rfl) (by kernel_rfl) (fun _ _ _ h => h) (Or.inl ⟨by rfl, ?hyr3_3⟩) (by assumption) ?restr3_3
        case hyr3_3 => (intro w hSw; (try dsimp only at hSw); go_simp; try (with_reducible rfl))
        simp only [Act.put, List.getElem_toArray, List.getElem_cons_succ, List.getElem_cons_zero, List.setIfInBounds_toArray, List.set_cons_zero, List.set_cons_succ]
        refine' wpAnyH_take (i := 4) (v := ?vr3_4) rfl (by kernel_rfl) (by kernel_rfl) (by kernel_rfl) (fun _ _ _ h => h) (Or.inl ⟨by rfl, ?hyr3_4⟩) (by assumption) ?restr3_4
        case hyr3_4 => (intro w hSw; (try dsimp only at hSw); go_simp; try (with_reducible rfl))
        simp only [Act.put, List.getElem_toArray, List.getElem_cons_succ, List.getElem_cons_zero, List.setIfInBounds_toArray, List.set_cons_zero, List.set_cons_succ]
        refine' wpAnyH_take (i := 5) (v := ?vr3_5) rfl (by kernel_rfl) (by kernel_rfl) (by kernel_rfl) (fun _ _ _ h => h) (Or.inl ⟨by rfl, ?hyr3_5⟩) (by assumption) ?restr3_5
        case hyr3_5 => (intro w hSw; (try dsimp only at hSw); go_simp; try (with_reducible rfl))
        simp only [Act.put, List.getElem_toArray, List.getElem_cons_succ, List.getElem_cons_zero, List.setIfInBounds_toArray, List.set_cons_zero, List.set_cons_succ]
        refine wpAnyH_take (i := 6) (v := undef) rfl (by kernel_rfl) (by kernel_rfl) (by kernel_rfl) (fun _ _ _ h => h) (Or.inr ⟨by rfl, rfl⟩) (by assumption) ?_
        simp only [Act.put, List.getElem_toArray, List.getElem_cons_succ, List.getElem_cons_zero, List.setIfInBounds_toArray, List.set_cons_zero, List.set_cons_succ]
        refine wpAnyH_take (i := 7) (v := undef) rfl (by kernel_rfl) (by kernel_rfl) (by kernel_rfl) (fun _ _ _ h => h) (Or.inr ⟨by rfl, rfl⟩) (by assumption) ?_
        simp only [Act.put, List.getElem_toArray, List.getElem_cons_succ, List.getElem_cons_zero, List.setIfInBounds_toArray, List.set_cons_zero, List.set_cons_succ]
        refine wpAnyH_take (i := 8) (v := undef) rfl (by kernel_rfl) (by kernel_rfl) (by kernel_rfl) (fun _ _ _ h => h) (Or.inr ⟨by rfl, rfl⟩) (by assumption) ?_
        simp only [Act.put, List.getElem_toArray, List.getElem_cons_succ, List.getElem_cons_zero, List.setIfInBounds_toArray, List.set_cons_zero, List.set_cons_succ]
        refine wpAnyH_take (i := 9) (v := undef) rfl (by kernel_rfl) (by kernel_rfl) (by kernel_rfl) (fun _ _ _ h => h) (Or.inr ⟨by rfl, rfl⟩) (by assumption) ?_
        simp only [Act.put, List.getElem_toArray, List.getElem_cons_succ, List.getElem_cons_zero, List.setIfInBounds_toArray, List.set_cons_zero, List.set_cons_succ]
        refine wpAnyH_take (i := 10) (v := undef) rfl (by kernel_rfl) (by kernel_rfl) (by kernel_rfl) (fun _ _ _ h => h) (Or.inr ⟨by rfl, rfl⟩) (by assumption) ?_
        simp only [Act.put, List.getElem_toArray, List.getElem_cons_succ, List.getElem_cons_zero, List.setIfInBounds_toArray, List.set_cons_zero, List.set_cons_succ]
        refine wpAnyH_take (i := 11) (v := undef) rfl (by kernel_rfl) (by kernel_rfl) (by kernel_rfl) (fun _ _ _ h => h) (Or.inr ⟨by rfl, rfl⟩) (by assumption) ?_
        simp only [Act.put, List.getElem_toArray, List.getElem_cons_succ, List.getElem_cons_zero, List.setIfInBounds_toArray, List.set_cons_zero, List.set_cons_succ]
        refine wpAnyH_take (i := 12) (v := undef) rfl (by kernel_rfl) (by kernel_rfl) (by kernel_rfl) (fun _ _ _ h => h) (Or.inr ⟨by rfl, rfl⟩) (by assumption) ?_
        simp only [Act.put, List.getElem_toArray, List.getElem_cons_succ, List.getElem_cons_zero, List.setIfInBounds_toArray, List.set_cons_zero, List.set_cons_succ]
        refine wpAnyH_take (i := 13) (v := undef) rfl (by kernel_rfl) (by kernel_rfl) (by kernel_rfl) (fun _ _ _ h => h) (Or.inr ⟨by rfl, rfl⟩) (by assumption) ?_
        simp only [Act.put, List.getElem_toArray, List.getElem_cons_succ, List.getElem_cons_zero, List.setIfInBounds_toArray, List.set_cons_zero, List.set_cons_succ]
        refine' wpAnyH_take (i := 14) (v := ?vr3_14) rfl (by kernel_rfl) (by kernel_rfl) (by kernel_rfl) (fun _ _ _ h => h) (Or.inl ⟨by rfl, ?hyr3_14⟩) (by assumption) ?restr3_14
        case hyr3_14 => (intro w hSw; (try dsimp only at hSw); go_simp; try (with_reducible rfl))
        simp only [Act.put, List.getElem_toArray, List.getElem_cons_succ, List.getElem_cons_zero, List.setIfInBounds_toArray, List.set_cons_zero, List.set_cons_succ]
        refine wpAnyH_done (by kernel_rfl) ?_ _
        have HS2 := Lib.hid hHeld.2.2.2.2.2
        clear hHeld HSG
        go_wp2_with fail
        go_roundw
        case rel => exact ⟨k + 1, p, A3, c3, ps, by omega, by omega, by go_num, rfl, HPL, HN, Lib.hid HS2.out.2, HS2.out.1.2⟩
        case measure => simp [intOf]; omega
    · have hkd : decide (k < n) = false := by simpa using hlt
      obtain rfl : ps = P := by rw [← HGR.out, List.take_of_length_le (by rw [hL.out]; omega)]; exact HP.out
      have HF := Lib.hid (show q = decide (p = m) by rw [HQP.out, HPL.out])
      by_cases hpm : p = m
      · have d1 : (p == m) = true := by simpa using hpm
        have d2 : ((p : Int) == (m : Int)) = true := by simp; omega
        obtain rfl : q = true := by rw [HF.out]; simpa using hpm
        clear hlt hpm
        go_wp2_with fail
        go_ret2
        exact ⟨.slice A3 p c3, rfl, by rw [HPL.out, HBB.out]; exact HO.out, HB1.out _ HR.out⟩
      · have d1 : (p == m) = false := by simpa using hpm
        have d2 : ((p : Int) == (m : Int)) = false := by simp; omega
        have d3 : decide (p = m) = false := by simpa using hpm
        obtain rfl : q = false := by rw [HF.out]; simpa using hpm
        clear hlt hpm
        go_wp2_with fail
        go_ret2
        exact ⟨.slice A3 p c3, rfl, by rw [HPL.out, HBB.out]; exact HO.out, HB1.out _ HR.out⟩
#print axioms withIds_is
end Go.Proofs.Ytidofckanadkpaa.pi5
