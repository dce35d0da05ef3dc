/-
  GoOnTrip, by the model; lists of people of one's own.
  Conditions: both lists have at most 2000000 elements and lie in one block each; names have at most 1048576 bytes.
-/
import Derived.Test.YtidofckanadkpaaPqD
import Derived.Laws.OwnMore
namespace Go.Proofs.Ytidofckanadkpaa.pq
open Go.RowKit
open reads base inn ty rowi psk psl psm psn pso psp
set_option linter.unusedVariables false
set_option linter.unusedSimpArgs false

/-- people that the call has made, and a word -/
def PPost (ps : List Ps) (t : Bool) (w : World) (e : Ending) (w' : World) : Prop :=
  ∃ v, e = .returned (.tuple #[v, .bool t]) ∧ w'.ownsRow w.heap.size 41 4 v ps.length (flatPs ps) ∧ Below w.heap.size w w'
theorem flatPs_set (t : Ps) : ∀ (ts : List Ps) (i : Nat), i < ts.length → ((((flatPs ts).set (i * 4) (.int .i64 t.id)).set (i * 4 + 1) (.string t.name)).set (i * 4 + 2) (.int .i64 t.skills)).set (i * 4 + 3) (.int .i64 t.trips) = flatPs (ts.set i t)
  | [], i, h => by simp at h
  | d :: ts, 0, h => by simp [flatPs]
  | d :: ts, i + 1, h => by
    have ih := flatPs_set t ts i (by simpa using h)
    have e : flatPs (d :: ts) = .int .i64 d.id :: .string d.name :: .int .i64 d.skills :: .int .i64 d.trips :: flatPs ts := rfl
    have e2 : flatPs ((d :: ts).set (i + 1) t) = .int .i64 d.id :: .string d.name :: .int .i64 d.skills :: .int .i64 d.trips :: flatPs (ts.set i t) := rfl
    rw [e2, ← ih, e, show (i + 1) * 4 = i * 4 + 1 + 1 + 1 + 1 by omega, show i * 4 + 1 + 1 + 1 + 1 + 1 = (i * 4 + 1) + 1 + 1 + 1 + 1 by omega, show i * 4 + 1 + 1 + 1 + 1 + 2 = (i * 4 + 2) + 1 + 1 + 1 + 1 by omega, show i * 4 + 1 + 1 + 1 + 1 + 3 = (i * 4 + 3) + 1 + 1 + 1 + 1 by omega]
    simp only [List.set_cons_succ]
/-- an element of an own list of people, written over -/
theorem own_put {w : World} {base g n c i : Nat} {ts : List Ps} {t : Ps} (h : w.ownsRow base 41 4 (.slice (some ⟨g, 0, none⟩) n c) n (flatPs ts)) (hi : i < ts.length) :
    ((((w.setCell ⟨g, i * 4, none⟩ (.int .i64 t.id)).setCell ⟨g, i * 4 + 1, none⟩ (.string t.name)).setCell ⟨g, i * 4 + 2, none⟩ (.int .i64 t.skills)).setCell ⟨g, i * 4 + 3, none⟩ (.int .i64 t.trips)).ownsRow base 41 4 (.slice (some ⟨g, 0, none⟩) n c) n (flatPs (ts.set i t)) := by
  rw [← flatPs_set t ts i hi]
  exact ((((h.stored (i * 4) _).1.stored (i * 4 + 1) _).1.stored (i * 4 + 2) _).1.stored (i * 4 + 3) _).1
theorem own_far {w : World} {base g n c X i size : Nat} {e : TypeId} {xs : List Value} (h : w.ownsRow base e size (.slice (some ⟨g, 0, none⟩) n c) n xs) (hX : g < X) (u : Value) : (w.setCell ⟨X, i, none⟩ u).ownsRow base e size (.slice (some ⟨g, 0, none⟩) n c) n xs := by
  refine ⟨h.1, ?_⟩
  rcases h.2 with q | ⟨g', cap, cur, h1, h2, h3, h4⟩
  · exact .inl q
  · refine .inr ⟨g', cap, cur, h1, h2, ?_, h4⟩
    injection h1 with h1
    injection h1 with h1
    injection h1 with h1
    exact (Below.heap_setCell w ⟨X, i, none⟩ u g' (by subst h1; simp only; omega)).trans h3
/-- a list of people that was made, as a list in memory -/
theorem own_people {base n : Nat} {v : Value} {ps : List Ps} {w : World} (hn : ps.length = n) (h : w.ownsRow base 41 4 v n (flatPs ps)) : ∃ A c, v = .slice A n c ∧ PsAt w w.heap.size A n ps := by
  obtain ⟨A, c, rfl⟩ := row_slice h
  exact ⟨A, c, rfl, own_Ps hn h⟩
theorem people_cells {w : World} {g n : Nat} {ts : List Ps} {cs : List Value} (h : PsAt w w.heap.size (some ⟨g, 0, none⟩) n ts) : ∀ j u, (flatPs ts)[j]? = some u → w.cell? ((⟨g, 0, none⟩ : Addr).add j) = some u := by
  intro j u hj
  have hl := (List.getElem?_eq_some_iff.1 hj).1
  rw [flatPs_len] at hl
  obtain ⟨t, ht⟩ : ∃ t, ts[j / 4]? = some t := ⟨_, List.getElem?_eq_getElem (by omega)⟩
  obtain ⟨f0, f1, f2, f3⟩ := flatPs_at ts (j / 4) t ht
  obtain ⟨g1, e1, -, c0, c1, c2, c3⟩ := h.2 (j / 4) t ht
  obtain rfl : g = g1 := by injection e1 with e1; injection e1
  have ha : ∀ k, (⟨g, 0, none⟩ : Addr).add k = ⟨g, k, none⟩ := fun k => by unfold Addr.add; by_cases hk : k = 0 <;> simp [hk]
  rw [ha]
  have : j = j / 4 * 4 ∨ j = j / 4 * 4 + 1 ∨ j = j / 4 * 4 + 2 ∨ j = j / 4 * 4 + 3 := by omega
  rcases this with q | q | q | q
  · rw [q] at hj; rw [f0] at hj; rw [q, ← hj]; exact c0
  · rw [q] at hj; rw [f1] at hj; rw [q, ← hj]; exact c1
  · rw [q] at hj; rw [f2] at hj; rw [q, ← hj]; exact c2
  · rw [q] at hj; rw [f3] at hj; rw [q, ← hj]; exact c3
theorem flat_one (ts : List Ps) : ∀ u ∈ flatPs ts, u.oneCell' = true := by
  intro u hu
  unfold flatPs at hu
  rw [List.mem_flatMap] at hu
  obtain ⟨t, -, ht⟩ := hu
  simp only [List.mem_cons, List.not_mem_nil, or_false] at ht
  rcases ht with rfl | rfl | rfl | rfl <;> rfl
/-- one more trip -/
def trip (xs : List Int) (t : Ps) : Ps := if mem xs t.id then ⟨t.id, t.name, t.skills, t.trips + 1⟩ else t
def gone (ts : List Ps) (xs : List Int) : List Ps := ts.map (trip xs)
def gtOk (ts : List Ps) (xs : List Int) : Bool := asked ts xs && team ts xs && psg.good (gone ts xs)
/-- GoOnTrip's people -/
def gtPs (ts : List Ps) (xs : List Int) : List Ps := if gtOk ts xs then gone ts xs else []
/-- the first k have been on the trip -/
def mixed (ts : List Ps) (xs : List Int) (k : Nat) : List Ps := (ts.take k).map (trip xs) ++ ts.drop k
theorem mixed_len (ts : List Ps) (xs : List Int) (k : Nat) : (mixed ts xs k).length = ts.length := by simp [mixed]; omega
theorem mixed_at {ts : List Ps} {xs : List Int} {k : Nat} {t : Ps} (h : ts[k]? = some t) : (mixed ts xs k)[k]? = some t := by
  have hk := (List.getElem?_eq_some_iff.1 h).1
  unfold mixed
  rw [List.getElem?_append_right (by simp; omega), List.getElem?_drop]
  simp only [List.length_map, List.length_take]
  rw [show k + (k - min k ts.length) = k by omega]; exact h
theorem mixed_set {ts : List Ps} {xs : List Int} {k : Nat} {t : Ps} (h : ts[k]? = some t) : (mixed ts xs k).set k (trip xs t) = mixed ts xs (k + 1) := by
  obtain ⟨hk, rfl⟩ := List.getElem?_eq_some_iff.1 h
  unfold mixed
  rw [List.set_append_right _ _ (by simp; omega)]
  simp only [List.length_map, List.length_take]
  rw [show k - min k ts.length = 0 by omega, List.drop_eq_getElem_cons hk, List.set_cons_zero, List.take_succ_eq_append_getElem hk, List.map_append, List.append_assoc]
  rfl
theorem mixed_zero (ts : List Ps) (xs : List Int) : mixed ts xs 0 = ts := by simp [mixed]
theorem mixed_all {ts : List Ps} {xs : List Int} {k : Nat} (h : ts.length ≤ k) : mixed ts xs k = gone ts xs := by unfold mixed gone; rw [List.take_of_length_le h, List.drop_of_length_le h]; simp
theorem gone_name {ts : List Ps} {xs : List Int} (h : ∀ t ∈ ts, t.name.size ≤ 1048576) : ∀ t ∈ gone ts xs, t.name.size ≤ 1048576 := by
  intro t ht
  obtain ⟨u, hu, rfl⟩ := List.mem_map.1 ht
  unfold trip; split <;> exact h u hu
set_option maxHeartbeats 8000000 in
set_option maxRecDepth 100000 in
theorem goOnTrip_model (A : Option Addr) (n cap : Nat) (ts : List Ps) (A' : Option Addr) (m cap' : Nat) (xs : List Int) (w : World) (hn : n ≤ 2000000) (hm : m ≤ 2000000) (hs : Hid (∀ t ∈ ts, t.name.size ≤ 1048576)) (hts : Hid (PsAt w w.heap.size A n ts)) (hxs : Hid (InAt w w.heap.size A' m xs)) :
    Calls Try.prog 23 #[.slice A n cap, .slice A' m cap'] w (PPost (gtPs ts xs) (gtOk ts xs) w) := by
  have hL : Hid (ts.length = n) := Lib.hid hts.out.1
  cases ha : asked ts xs
  · have HA := Lib.hid ha
    have HF := Lib.hid (show gtOk ts xs = false by unfold gtOk; rw [ha]; rfl)
    have HP := Lib.hid (show gtPs ts xs = [] by unfold gtPs; rw [HF.out]; rfl)
    clear ha
    rw [HF.out, HP.out]
    go_enter Try.func23, Try.ntmps23
    go_wp2_with fail
    refine (asked_is A n cap ts A' m cap' xs false _ hn hm hs hts hxs HA).mono ?_
    rintro e w1 ⟨rfl, b1⟩
    have HB := Lib.hid b1
    have hBs := b1.size
    clear b1
    have HR := Lib.hid (show (w1.alloc (.cells #[] 41)).ownsRow w.heap.size 41 4 (.slice (some ⟨w1.heap.size, 0, none⟩) 0 0) 0 [] from World.ownsRow_made w1 #[] 0 hBs (by decide) (by simp))
    go_wp2_with fail
    go_ret2
    exact ⟨_, rfl, HR.out, HB.out.alloc hBs _⟩
  have HA := Lib.hid ha
  have HH := Lib.hid (asked_parts ha).1
  have HD := Lib.hid (asked_bd ha)
  have hg := (asked_parts ha).2.1
  have hn10 : n ≤ 10 := by rw [← hL.out]; exact good_len hg
  cases ht : team ts xs
  · have HTM := Lib.hid ht
    have HF := Lib.hid (show gtOk ts xs = false by unfold gtOk; rw [ha, ht]; rfl)
    have HP := Lib.hid (show gtPs ts xs = [] by unfold gtPs; rw [HF.out]; rfl)
    clear ha ht hg
    rw [HF.out, HP.out]
    go_enter Try.func23, Try.ntmps23
    go_wp2_with fail
    refine (asked_is A n cap ts A' m cap' xs true _ hn hm hs hts hxs HA).mono ?_
    rintro e w1 ⟨rfl, b1⟩
    have HB := Lib.hid b1
    have HT1 := Lib.hid (hts.out.step b1)
    have HX1 := Lib.hid (hxs.out.step b1)
    clear b1
    go_wp2_with fail
    refine (team_any A n cap ts A' m cap' xs _ hn hm HH HD HT1 HX1).mono ?_
    rintro e w2 ⟨he, b2⟩
    rw [HTM.out] at he
    subst he
    have HB2 := Lib.hid (HB.out.trans (b2.mono HB.out.size))
    have hBs := HB2.out.size
    clear b2
    have HR := Lib.hid (show (w2.alloc (.cells #[] 41)).ownsRow w.heap.size 41 4 (.slice (some ⟨w2.heap.size, 0, none⟩) 0 0) 0 [] from World.ownsRow_made w2 #[] 0 hBs (by decide) (by simp))
    go_wp2_with fail
    go_ret2
    exact ⟨_, rfl, HR.out, HB2.out.alloc hBs _⟩
  have HTM := Lib.hid ht
  obtain ⟨i0, hi, hz0, hz1, hz2⟩ := info_parts infoPs
  obtain ⟨r, HRG⟩ : ∃ r, Hid (psg.good (gone ts xs) = r) := ⟨_, Lib.hid rfl⟩
  have HF := Lib.hid (show gtOk ts xs = r by unfold gtOk; rw [ha, ht, HRG.out]; rfl)
  obtain ⟨P, HP⟩ : ∃ P, Hid (gtPs ts xs = P) := ⟨_, Lib.hid rfl⟩
  have HPY := Lib.hid (show r = true → P = gone ts xs from fun e => by rw [← HP.out]; unfold gtPs; rw [HF.out, e]; rfl)
  have HPN := Lib.hid (show r = false → P = [] from fun e => by rw [← HP.out]; unfold gtPs; rw [HF.out, e]; rfl)
  have hn2 : 0 < n := by
    rw [← hL.out]
    have := (asked_parts ha).1
    unfold team at ht
    rw [Bool.and_eq_true, Bool.and_eq_true] at ht
    have h2 := btw_yes ht.1.1
    cases xs with
    | nil => simp at h2
    | cons x xs =>
      have := this x (by simp)
      obtain ⟨j, t, -, hj, -⟩ := psl.who_some this
      omega
  clear ha ht hg
  rw [HF.out, HP.out]
  obtain ⟨g, rfl⟩ : ∃ g, A = some ⟨g, 0, none⟩ := by
    obtain ⟨t, ht⟩ := at_lt hL.out hn2
    obtain ⟨g, e, -⟩ := hts.out.2 0 t ht
    exact ⟨g, e⟩
  go_enter Try.func23, Try.ntmps23
  go_wp2_with fail
  refine (asked_is (some ⟨g, 0, none⟩) n cap ts A' m cap' xs true _ hn hm hs hts hxs HA).mono ?_
  rintro e w1 ⟨rfl, b1⟩
  have HB := Lib.hid b1
  have HT1 := Lib.hid (hts.out.step b1)
  have HX1 := Lib.hid (hxs.out.step b1)
  clear b1
  go_wp2_with fail
  refine (team_any (some ⟨g, 0, none⟩) n cap ts A' m cap' xs _ hn hm HH HD HT1 HX1).mono ?_
  rintro e w2 ⟨he, b2⟩
  rw [HTM.out] at he
  subst he
  have HB2 := Lib.hid (HB.out.trans (b2.mono HB.out.size))
  have HT2 := Lib.hid (HT1.out.step b2)
  have HX2 := Lib.hid (HX1.out.step b2)
  have hBs := HB2.out.size
  clear b2
  have HR := Lib.hid (show (w2.alloc (.cells #[] 41)).ownsRow w.heap.size 41 4 (.slice (some ⟨w2.heap.size, 0, none⟩) 0 0) 0 [] from World.ownsRow_made w2 #[] 0 hBs (by decide) (by simp))
  have HT3 := Lib.hid (HT2.out.alloc (.cells #[] 41))
  have HFL := Lib.hid (show (flatPs ts).length = n * 4 by rw [flatPs_len, hL.out])
  go_wp2_with (at_builtin; refine wpList_append_own _ rfl _ _ 24 rfl w.heap.size 41 i0 _ 4 40 Try.underlying24 hi hz0 hz1 hz2 rfl (by decide) _ _ _ rfl HR.out ⟨g, 0, none⟩ n cap (flatPs ts) rfl HFL.out (people_cells (cs := []) HT3.out) (flat_one ts) (by unfold maxLen; omega) (by omega) (by simp; omega) ?_; intro v' w3 hown' hgrow _)
  rw [Nat.zero_add, List.nil_append] at hown'
  have HB3 := Lib.hid ((HB2.out.alloc hBs (.cells #[] 41)).grown hgrow (by simp; omega) (fun j ej => (HR.out.lt j ej).1))
  have HO3 := Lib.hid hown'
  have HX3 := Lib.hid (hxs.out.step HB3.out)
  obtain ⟨A3, c3, rfl⟩ := row_slice hown'
  clear hown' hgrow
  go_wp2_with fail
  go_loopw [7] (fun i wr => ∃ k : Nat, k ≤ n ∧ i = .int .i64 k ∧ Hid (wr.ownsRow w.heap.size 41 4 (.slice A3 n c3) n (flatPs (mixed ts xs k))) ∧ Below w.heap.size w wr) (fun i _ => n - (intOf i).toNat)
  case atStart => exact ⟨0, Nat.zero_le _, rfl, Lib.hid (by rw [mixed_zero]; exact HO3.out), HB3.out⟩
  case round =>
    obtain ⟨k, hk, rfl, HO, hB⟩ := hrel
    have HB4 := Lib.hid hB
    have hBs4 := hB.size
    clear hB
    by_cases hlt : k < n
    · have hki : (k : Int) < (n : Int) := by omega
      have hk0 : 0 ≤ (k : Int) := by omega
      have hkd : decide (k < n) = true := by simpa using hlt
      obtain ⟨t, htk⟩ := at_lt hL.out hlt
      have HM := Lib.hid (mixed_set (xs := xs) htk)
      have HML := Lib.hid (show (mixed ts xs k).length = n by rw [mixed_len, hL.out])
      have hPs := own_Ps HML.out HO.out
      obtain ⟨g3, rfl, hg3, c0, c1, c2, c3'⟩ := hPs.2 k t (mixed_at htk)
      have htr := (HD.out t (List.mem_of_getElem? htk)).2
      have hg3b := (HO.out.lt g3 rfl).1
      have HXr := Lib.hid (show InAt wr wr.heap.size A' m xs from hxs.out.step HB4.out)
      obtain ⟨X, HX⟩ : ∃ X, Hid (wr.heap.size = X) := ⟨_, Lib.hid rfl⟩
      obtain ⟨W, HW⟩ : ∃ W, Hid (wr.alloc (.cells #[.int .i64 t.id, .string t.name, .int .i64 t.skills, .int .i64 t.trips] 41) = W) := ⟨_, Lib.hid rfl⟩
      have HBX := Lib.hid (show Blk W X 41 #[.int .i64 t.id, .string t.name, .int .i64 t.skills, .int .i64 t.trips] by rw [← HW.out, ← HX.out]; exact Blk.new _ _ _)
      have HOW := Lib.hid (show W.ownsRow w.heap.size 41 4 (.slice (some ⟨g3, 0, none⟩) n c3) n (flatPs (mixed ts xs k)) by rw [← HW.out]; exact HO.out.alloc _)
      have HBW := Lib.hid (show Below w.heap.size w W by rw [← HW.out]; exact HB4.out.alloc hBs4 _)
      have HPW := Lib.hid (own_Ps HML.out HOW.out)
      have hgX : g3 < X := by rw [← HX.out]; exact hg3
      have hwX : w.heap.size ≤ X := by rw [← HX.out]; exact hBs4
      obtain ⟨r1, HR1⟩ : ∃ r, Hid (mem xs t.id = r) := ⟨_, Lib.hid rfl⟩
      have HMK := Lib.hid (mixed_at (xs := xs) htk)
      clear hPs htk
      cases r1
      · have HTR := Lib.hid (show trip xs t = t by unfold trip; rw [HR1.out]; rfl)
        go_wp2_with fail
        refine (has_is A' m cap' xs t.id false HR1 _ hm (Lib.hid (HXr.out.alloc _).il)).mono ?_
        rintro e w5 ⟨rfl, rfl⟩
        rw [HW.out, HX.out]
        have b0 : W.cell? ⟨X, 0, none⟩ = some (.int .i64 t.id) := HBX.out.cell 0
        have b1 : W.cell? ⟨X, 1, none⟩ = some (.string t.name) := HBX.out.cell 1
        have b2 : W.cell? ⟨X, 2, none⟩ = some (.int .i64 t.skills) := HBX.out.cell 2
        have b3 : W.cell? ⟨X, 3, none⟩ = some (.int .i64 t.trips) := HBX.out.cell 3
        have b4 := HBX.out.frozen 3
        obtain ⟨g5, e5, -, q0, q1, q2, q3⟩ := HPW.out.2 k t HMK.out
        obtain rfl : g3 = g5 := by injection e5 with e5; injection e5
        have f0 := HOW.out.frozenAt (k * 4)
        have f1 := HOW.out.frozenAt (k * 4 + 1)
        have f2 := HOW.out.frozenAt (k * 4 + 2)
        have f3 := HOW.out.frozenAt (k * 4 + 3)
        clear c0 c1 c2 c3' e5
        go_wp2_with fail
        go_roundw
        case rel =>
          refine ⟨k + 1, by omega, by go_num, Lib.hid ?_, ?_⟩
          · rw [← HM.out, HTR.out]
            exact own_put (t := t) HOW.out (by rw [HML.out]; exact hlt)
          · exact (((HBW.out.setCell hg3b _).setCell hg3b _).setCell hg3b _).setCell hg3b _
        case measure => simp [intOf]; omega
      · have HTR := Lib.hid (show trip xs t = ⟨t.id, t.name, t.skills, t.trips + 1⟩ by unfold trip; rw [HR1.out]; rfl)
        go_wp2_with fail
        refine (has_is A' m cap' xs t.id true HR1 _ hm (Lib.hid (HXr.out.alloc _).il)).mono ?_
        rintro e w5 ⟨rfl, rfl⟩
        rw [HW.out, HX.out]
        have b0 : W.cell? ⟨X, 0, none⟩ = some (.int .i64 t.id) := HBX.out.cell 0
        have b1 : W.cell? ⟨X, 1, none⟩ = some (.string t.name) := HBX.out.cell 1
        have b2 : W.cell? ⟨X, 2, none⟩ = some (.int .i64 t.skills) := HBX.out.cell 2
        have b3 : W.cell? ⟨X, 3, none⟩ = some (.int .i64 t.trips) := HBX.out.cell 3
        have b4 := HBX.out.frozen 3
        obtain ⟨g5, e5, -, q0, q1, q2, q3⟩ := HPW.out.2 k t HMK.out
        obtain rfl : g3 = g5 := by injection e5 with e5; injection e5
        have f0 := HOW.out.frozenAt (k * 4)
        have f1 := HOW.out.frozenAt (k * 4 + 1)
        have f2 := HOW.out.frozenAt (k * 4 + 2)
        have f3 := HOW.out.frozenAt (k * 4 + 3)
        clear c0 c1 c2 c3' e5
        go_wp2_with fail
        go_roundw
        case rel =>
          refine ⟨k + 1, by omega, by go_num, Lib.hid ?_, ?_⟩
          · rw [← HM.out, HTR.out]
            exact own_put (t := ⟨t.id, t.name, t.skills, t.trips + 1⟩) (own_far HOW.out hgX _) (by rw [HML.out]; exact hlt)
          · exact ((((HBW.out.setCell hwX _).setCell hg3b _).setCell hg3b _).setCell hg3b _).setCell hg3b _
        case measure => simp [intOf]; omega
    · have hkd : decide (k < n) = false := by simpa using hlt
      obtain rfl : k = n := by omega
      have HO5 := Lib.hid (show wr.ownsRow w.heap.size 41 4 (.slice A3 k c3) k (flatPs (gone ts xs)) by have := HO.out; rwa [mixed_all (by rw [hL.out]; exact Nat.le_refl _)] at this)
      have HGL := Lib.hid (show (gone ts xs).length = k by unfold gone; rw [List.length_map, hL.out])
      have HP5 := Lib.hid (own_Ps HGL.out HO5.out)
      have HNM := Lib.hid (gone_name (xs := xs) hs.out)
      clear hlt
      go_wp2_with fail
      refine (psg.good_is A3 k c3 _ r _ hn HNM HP5 HRG).mono ?_
      rintro e w6 ⟨rfl, b6⟩
      have HB6 := Lib.hid (HB4.out.trans (b6.mono hBs4))
      have HO6 := Lib.hid (row_below HO5.out b6)
      have hBs6 := HB6.out.size
      clear b6
      cases r
      · have HR := Lib.hid (show (w6.alloc (.cells #[] 41)).ownsRow w.heap.size 41 4 (.slice (some ⟨w6.heap.size, 0, none⟩) 0 0) 0 [] from World.ownsRow_made w6 #[] 0 hBs6 (by decide) (by simp))
        obtain rfl : P = [] := HPN.out rfl
        go_wp2_with fail
        go_ret2
        exact ⟨.slice (some ⟨w6.heap.size, 0, none⟩) 0 0, rfl, HR.out, HB6.out.alloc hBs6 _⟩
      · obtain rfl : P = gone ts xs := HPY.out rfl
        go_wp2_with fail
        go_ret2
        exact ⟨.slice A3 k c3, rfl, by rw [HGL.out]; exact HO6.out, HB6.out⟩
#print axioms goOnTrip_model
end Go.Proofs.Ytidofckanadkpaa.pq
