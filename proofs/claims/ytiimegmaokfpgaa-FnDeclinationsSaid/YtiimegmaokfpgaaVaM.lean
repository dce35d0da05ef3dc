/-
  The model of a point added.
  Conditions: the points lie in one block, at most 2000000 of them.
-/
import Derived.Test.YtiimegmaokfpgaaVaC
import Derived.Test.YtiimegmaokfpgaaVaQ
import Derived.BigQuiet
import Derived.Deep.QuietTactic
import Derived.Deep.Cut
import Derived.Deep.DeepCutAuto
import Derived.RegionTactic
import Derived.Deep.RegionWith
import Derived.OwnWalk
import Derived.Deep.RegionHeld3
namespace Go.Proofs.Ytiimegmaokfpgaa.va
open Go.RowKit
open reads base ty rowi inn
set_option linter.unusedVariables false
set_option linter.unusedSimpArgs false

theorem pos_nil (d : Int) : pos [] d = 0 := pos_is [] d 0 (Nat.le_refl _) (fun i p h => absurd h (by omega)) (fun p h => by simp at h)
theorem behind_end {ts : List Dp} {p : Dp} {k : Nat} (hk : pos ts p.day = k) (h : ts.length = k) : behind ts p = k := by
  unfold behind; rw [hk, List.getElem?_eq_none (by omega)]
theorem behind_no {ts : List Dp} {p q : Dp} {k : Nat} (hk : pos ts p.day = k) (h : ts[k]? = some q) (hd : ¬ q.day = p.day) : behind ts p = k := by
  unfold behind; rw [hk, h]; exact if_neg hd
theorem behind_yes {ts : List Dp} {p q : Dp} {k : Nat} (hk : pos ts p.day = k) (h : ts[k]? = some q) (hd : q.day = p.day) : behind ts p = k + 1 := by
  unfold behind; rw [hk, h]; exact if_pos hd
theorem addDp_is {ts : List Dp} {p : Dp} {k b : Nat} (hk : pos ts p.day = k) (hb : behind ts p = b) : addDp ts p = ts.take k ++ p :: ts.drop b := by unfold addDp; rw [hk, hb]
theorem apV_no {ts : List Dp} {p : Dp} (h : apOk ts p = false) : apV ts p = [] := by unfold apV; rw [h]; rfl
theorem apV_yes {ts : List Dp} {p : Dp} (h : apOk ts p = true) : apV ts p = addDp ts p := by unfold apV; rw [h]; rfl
theorem apV_len (ts : List Dp) (p : Dp) : (apV ts p).length ≤ 8 := by
  unfold apV
  split
  · rename_i h; unfold apOk at h; rw [Bool.and_eq_true] at h; exact (good_lim h.2).2.1
  · simp
/-- a point in a box, and nothing old has turned -/
def BX (w : World) (X : Nat) (x : Dp) (v : World) : Prop := Below w.heap.size w v ∧ Blk v X 42 #[.int .i64 x.day, .int .i64 x.tn] ∧ w.heap.size ≤ X
theorem BX.start (w : World) (x : Dp) : BX w w.heap.size x (w.alloc (.cells #[.int .i64 x.day, .int .i64 x.tn] 42)) := ⟨(Below.refl _ _).alloc (Nat.le_refl _) _, Blk.new w _ _, Nat.le_refl _⟩
theorem BX.step {w v v' : World} {X : Nat} {x : Dp} (h : BX w X x v) (hb : Below v.heap.size v v') : BX w X x v' := ⟨h.1.trans (hb.mono h.1.size), h.2.1.below hb h.2.1.lt, h.2.2⟩
theorem BX.alloc {w v : World} {X : Nat} {x : Dp} (h : BX w X x v) (o : Obj) : BX w X x (v.alloc o) := h.step ((Below.refl _ _).alloc (Nat.le_refl _) o)
theorem BX.drewN {w v : World} {X : Nat} {x : Dp} (h : BX w X x v) (m : Nat) : BX w X x (v.drewN m) := h.step (drewN_below _ m)
theorem BX.cs {w v : World} {X : Nat} {x : Dp} (h : BX w X x v) : v.cell? ⟨X, 0, none⟩ = some (.int .i64 x.day) ∧ v.cell? ⟨X, 1, none⟩ = some (.int .i64 x.tn) ∧ X < v.heap.size := ⟨h.2.1.cell 0, h.2.1.cell 1, h.2.1.lt⟩
/-- a list of one's own beside them -/
def RX (w : World) (X : Nat) (x : Dp) (v : Value) (n : Nat) (us : List Dp) (u : World) : Prop := BX w X x u ∧ u.ownsRow (X + 1) 42 2 v n (flatDp us)
theorem rx_new {w v : World} {X : Nat} {x : Dp} (h : BX w X x v) : RX w X x (.slice (some ⟨v.heap.size, 0, none⟩) 0 0) 0 [] (v.alloc (.cells #[] 42)) :=
  ⟨h.alloc _, World.ownsRow_made v #[] 0 h.2.1.lt (by decide) (by simp)⟩
theorem RX.alloc {w u : World} {X : Nat} {x : Dp} {v : Value} {n : Nat} {us : List Dp} (h : RX w X x v n us u) (o : Obj) : RX w X x v n us (u.alloc o) := ⟨h.1.alloc o, h.2.alloc o⟩
theorem RX.step {w u u' : World} {X : Nat} {x : Dp} {v : Value} {n : Nat} {us : List Dp} (h : RX w X x v n us u) (hb : Below u.heap.size u u') : RX w X x v n us u' := ⟨h.1.step hb, row_below h.2 hb⟩
theorem RX.app {w u u' : World} {X : Nat} {x : Dp} {v v' : Value} {n m : Nat} {us vs : List Dp} (h : RX w X x v n us u) (ho : u'.ownsRow (X + 1) 42 2 v' (n + m) (flatDp us ++ flatDp vs)) (hg : u.grownBy u' v.ownBlock) : RX w X x v' (n + m) (us ++ vs) u' :=
  ⟨⟨h.1.1.grown hg h.1.1.size (fun g e => by have := (h.2.lt g e).1; have := h.1.2.2; omega), h.1.2.1.grown hg (fun e => by have := (h.2.lt X e.symm).1; omega), h.1.2.2⟩, by rw [flatDp_append]; exact ho⟩
theorem own_low {w : World} {base base' size m : Nat} {e : TypeId} {x : Value} {xs : List Value} (hb : base' ≤ base) (h : w.ownsRow base e size x m xs) : w.ownsRow base' e size x m xs := by
  refine ⟨h.1, ?_⟩
  rcases h.2 with ⟨e1, e2⟩ | ⟨g, cp, cur, e1, e2, e3⟩
  · exact .inl ⟨e1, e2⟩
  · exact .inr ⟨g, cp, cur, e1, by omega, e3⟩
theorem ends_b (w : World) (m : Nat) : Below w.heap.size w (w.drewN m) := drewN_below w m
theorem s_mk {w u : World} {X : Nat} {x : Dp} (h : BX w X x u) : u.cell? ⟨X, 0, none⟩ = some (.int .i64 x.day) ∧ u.cell? ⟨X, 1, none⟩ = some (.int .i64 x.tn) ∧ BX w X x u := ⟨h.2.1.cell 0, h.2.1.cell 1, h⟩
set_option maxHeartbeats 16000000 in
set_option maxRecDepth 100000 in
theorem addPoint_model (A : Option Addr) (n cap : Nat) (ts : List Dp) (x : Dp) (w : World) (hcap : CapOk A n cap) (hn : n ≤ 2000000) (hts : Hid (DpAt w w.heap.size A n ts)) :
    Calls Try.prog 34 #[.slice A n cap, .agg #[.int .i64 x.day, .int .i64 x.tn]] w (DPost (apV ts x) (apOk ts x) w) := by
  have HL := Lib.hid hts.out.1
  have HCP := Lib.hid hcap
  clear hcap
  obtain ⟨G, HG⟩ : ∃ G, Hid (goodDp ts = G) := ⟨_, Lib.hid rfl⟩
  obtain ⟨R, HRR⟩ : ∃ R, Hid (addDp ts x = R) := ⟨_, Lib.hid rfl⟩
  obtain ⟨NR, HNR⟩ : ∃ N, Hid (R.length = N) := ⟨_, Lib.hid rfl⟩
  obtain ⟨G2, HG2⟩ : ∃ G, Hid (goodDp R = G) := ⟨_, Lib.hid rfl⟩
  obtain ⟨X, HX⟩ : ∃ X, Hid (w.heap.size = X) := ⟨_, Lib.hid rfl⟩
  obtain ⟨V, HV⟩ : ∃ V, Hid (w.alloc (.cells #[.int .i64 x.day, .int .i64 x.tn] 42) = V) := ⟨_, Lib.hid rfl⟩
  have HB0 := Lib.hid (show BX w X x V by rw [← HV.out, ← HX.out]; exact BX.start w x)
  have HFO := Lib.hid (show G2 = false → apOk ts x = false from fun e => by unfold apOk; rw [HRR.out, HG2.out, e, Bool.and_false])
  by_cases hbad : G = false ∧ 0 < n
  · have HNO := Lib.hid (show apOk ts x = false by unfold apOk; rw [HG.out, hbad.1, decide_eq_false (by rw [HL.out]; omega)]; rfl)
    have hgt : decide (0 < n) = true := by simpa using hbad.2
    have hgt2 : decide ((0 : Int) < (n : Int)) = true := by simp; omega
    obtain rfl := hbad.1
    go_enter Try.func34, Try.ntmps34
    go_upto_region 1 with fail
    rw [HV.out]
    try rw [HX.out]
    go_wp2_with fail
    refine (good_is A n cap ts _ HG _ hn (Lib.hid (hts.out.step HB0.out.1))).mono ?_
    rintro e w1 ⟨rfl, b1⟩
    have HB1 := Lib.hid (HB0.out.step b1)
    clear b1 HB0
    go_wp2_with fail
    go_ret2
    exact ⟨_, by rw [HNO.out]; rfl, by rw [apV_no HNO.out]; exact made1 w w1 HB1.out.1.size 42 2, HB1.out.1.alloc HB1.out.1.size _⟩
  have HFT := Lib.hid (show G2 = true → apOk ts x = true from fun e => by
    unfold apOk
    rw [HRR.out, HG2.out, e, Bool.and_true, HG.out]
    cases hq : G
    · rw [decide_eq_true (by rw [HL.out]; have : ¬ 0 < n := fun q => hbad ⟨hq, q⟩; omega)]; rfl
    · simp)
  have hn8 : n ≤ 8 := by
    cases hq : G
    · have : ¬ 0 < n := fun q => hbad ⟨hq, q⟩; omega
    · have := (good_lim (HG.out.trans hq)).2.1; rw [HL.out] at this; exact this
  have hgx : (!G && decide ((0 : Int) < (n : Int))) = false := by
    cases hq : G
    · have : ¬ 0 < n := fun q => hbad ⟨hq, q⟩; simp; omega
    · rfl
  have hn0 : G = false → n = 0 := fun q => by have : ¬ 0 < n := fun z => hbad ⟨q, z⟩; omega
  have HN0 := Lib.hid hn0
  clear hbad hn0 hgx
  go_enter Try.func34, Try.ntmps34
  go_upto_region 1 with fail
  rw [HV.out]
  try rw [HX.out]
  clear HV
  go_cut [16] (fun v wx => v = .bool false ∧ BX w X x wx)
  case first =>
    cases G
    · obtain rfl := HN0.out rfl
      go_wp2_with fail
      refine (good_is A 0 cap ts _ HG _ hn (Lib.hid (hts.out.step HB0.out.1))).mono ?_
      rintro e w1 ⟨rfl, b1⟩
      have HB1 := Lib.hid (HB0.out.step b1)
      clear b1
      go_wp2_with fail
      go_meet
      case rel => exact ⟨by first | rfl | trivial, HB1.out⟩
    · go_wp2_with fail
      refine (good_is A n cap ts _ HG _ hn (Lib.hid (hts.out.step HB0.out.1))).mono ?_
      rintro e w1 ⟨rfl, b1⟩
      have HB1 := Lib.hid (HB0.out.step b1)
      clear b1
      go_wp2_with fail
      go_meet
      case rel => exact ⟨by first | rfl | trivial, HB1.out⟩
  case rest =>
    obtain ⟨rfl, hB1⟩ := hcut
    have HB1 := Lib.hid hB1
    clear hB1 HB0
    go_wp2_with fail
    go_loopw [6] (fun i wr => ∃ k : Nat, k ≤ n ∧ i = .int .i64 (k : Nat) ∧ Hid (∀ (j : Nat) q, j < k → ts[j]? = some q → q.day < x.day) ∧ BX w X x wr) (fun i _ => n - (intOf i).toNat)
    case atStart => exact ⟨0, Nat.zero_le _, rfl, Lib.hid (fun j q h => absurd h (by omega)), HB1.out⟩
    case round =>
      clear HB1
      obtain ⟨k, hk, rfl, HLO, hB⟩ := hrel
      have HB := Lib.hid hB
      clear hB
      have hk0 : (0 : Int) ≤ (k : Int) := by omega
      by_cases hlt : k < n
      · have hki : (k : Int) < (n : Int) := by omega
        have hkd : decide (k < n) = true := by simpa using hlt
        obtain ⟨q, hq⟩ := at_lt HL.out hlt
        obtain ⟨g, rfl, hg, c0, c1⟩ := (hts.out.below HB.out.1).2 k q hq
        obtain ⟨b0, b1, bl⟩ := HB.out.cs
        have HQ := Lib.hid hq
        have hkc : k < cap := by rcases HCP.out with ⟨g', e, h⟩ | ⟨e, -⟩; omega; cases e
        have hnc : n ≤ cap := by rcases HCP.out with ⟨g', e, h⟩ | ⟨e, -⟩; exact h; cases e
        clear hq
        by_cases hd : q.day < x.day
        · have hdd : decide (q.day < x.day) = true := by simpa using hd
          go_wp2_with fail
          go_quiet (fail)
          go_wp2_with fail
          go_roundw
          case rel => exact ⟨k + 1, by omega, by go_num, Lib.hid (fun j p hj hp => by
            by_cases e : j = k
            · subst e; rw [HQ.out] at hp; obtain rfl := Option.some.inj hp; exact hd
            · exact HLO.out j p (by omega) hp), HB.out.drewN _⟩
          case measure => simp [intOf]; omega
        · have hdd : decide (q.day < x.day) = false := by simpa using hd
          have HPK := Lib.hid (show pos ts x.day = k from pos_is ts x.day k (by rw [HL.out]; omega) HLO.out (fun p hp => by rw [HQ.out] at hp; obtain rfl := Option.some.inj hp; omega))
          go_wp2_with fail
          go_quiet (fail)
          go_upto_region 6 with fail
          obtain ⟨M, HM⟩ : ∃ M, Hid (n - k = M) := ⟨_, Lib.hid rfl⟩
          have hM0 : 0 < M := by have := HM.out; omega
          have hMk : M + k = n := by have := HM.out; omega
          have hcc : ¬ cap = k := by omega
          have hcc2 : ¬ (cap : Int) = (k : Int) := by omega
          have hkci : (k : Int) ≤ (cap : Int) := by omega
          have hkni : (k : Int) ≤ (n : Int) := by omega
          have hnci : (n : Int) ≤ (cap : Int) := by omega
          have hnk : decide ((0 : Int) < ((n - k : Nat) : Int)) = true := by simp; omega
          have hnk2 : decide (0 < n - k) = true := by simp; omega
          have hnk3 : 0 < n - k := by omega
          have hnk4 : (0 : Int) < ((n - k : Nat) : Int) := by omega
          obtain ⟨te, hte⟩ : ∃ t, (q.day == x.day) = t := ⟨_, rfl⟩
          go_upto_region 6 with fail
          go_cut [7] (fun v wx => ∃ (R0 : Option Addr) (c2 : Nat), v = .slice R0 M c2 ∧ BX w X x wx ∧ Hid (∀ u : World, Below w.heap.size w u → SrcDp u w.heap.size R0 M c2 (ts.drop k)) ∧ R0 = some ⟨g, k * 2, none⟩ ∧ M ≤ c2)
          case first =>
            go_wp2_with fail
            go_meet
            case rel => exact ⟨some ⟨g, k * 2, none⟩, cap - k, by rw [← HM.out], HB.out.step (ends_b _ _), Lib.hid (fun u hu => by rw [← HM.out]; exact src_drop (hts.out.below hu) (by omega) _), rfl, by have := HM.out; omega⟩
          case rest =>
            obtain ⟨R0, c2, rfl, hB, HSD, rfl, hMc⟩ := hcut
            have HB5 := Lib.hid hB
            clear hB HB c0 c1 b0 b1 bl hnk hnk2 hnk3 hnk4
            obtain ⟨g9, e9, -, c0, c1⟩ := (hts.out.below HB5.out.1).2 k q HQ.out
            obtain rfl : g = g9 := by injection e9 with e9; injection e9
            clear e9
            obtain ⟨b0, b1, bl⟩ := HB5.out.cs
            have hM0i : (0 : Int) < (M : Int) := by omega
            have hM0d : decide ((0 : Int) < (M : Int)) = true := by simp; omega
            have hM0e : decide (0 < M) = true := by simp; omega
            have hM1i : (1 : Int) ≤ (M : Int) := by omega
            have hMci : (M : Int) ≤ (c2 : Int) := by omega
            have hc1i : (1 : Int) ≤ (c2 : Int) := by omega
            go_upto_region 7 with fail
            go_cut [48] (fun v wx => v = .bool te ∧ BX w X x wx)
            case first =>
              rename_i J0 K0 hJ0 hK0
              go_quiet (fail)
              first | refine hJ0 _ _ ?_ | refine hK0 _ _ (Met.intro (hJ0 _ _ ?_)) | refine Met.intro (hK0 _ _ (Met.intro (hJ0 _ _ ?_)))
              (repeat apply Exists.intro)
              exact ⟨⟨rfl, HB5.out.drewN _⟩, rfl⟩
            case rest =>
              obtain ⟨rfl, hB⟩ := hcut
              have HB7 := Lib.hid hB
              clear hB HB5
              go_upto_if 48 with fail
              go_cut [7] (fun v wx => ∃ (R0 : Option Addr) (m c2 b : Nat), v = .slice R0 m c2 ∧ BX w X x wx ∧ Hid (behind ts x = b) ∧ m + b = n ∧ Hid (∀ u : World, Below w.heap.size w u → SrcDp u w.heap.size R0 m c2 (ts.drop b)))
              case first =>
                cases te
                · have HBH := Lib.hid (behind_no HPK.out HQ.out (by simpa using hte))
                  go_wp2_with fail
                  go_meet
                  case rel => exact ⟨_, M, _, k, rfl, HB7.out, HBH, by omega, HSD⟩
                · have HBH := Lib.hid (behind_yes HPK.out HQ.out (by simpa using hte))
                  by_cases h1 : c2 = 1
                  · subst h1
                    obtain rfl : M = 1 := by omega
                    go_wp2_with fail
                    go_meet
                    case rel => exact ⟨_, 0, _, k + 1, rfl, HB7.out, HBH, by omega, Lib.hid (fun u hu => by rw [List.drop_of_length_le (by rw [HL.out]; omega)]; exact src_end _ _ _ _)⟩
                  · have h1i : ¬ (c2 : Int) = 1 := by omega
                    go_wp2_with fail
                    go_meet
                    case rel => exact ⟨some ⟨g, k * 2 + 2, none⟩, M - 1, _, k + 1, rfl, HB7.out, HBH, by omega, Lib.hid (fun u hu => by have h := src_drop (k := k + 1) (hts.out.below hu) (by omega) (c2 - 1); rw [show (k + 1) * 2 = k * 2 + 2 by omega, show n - (k + 1) = M - 1 by omega] at h; exact h)⟩
              case rest =>
                obtain ⟨R0, m, c2, b, rfl, hB, HBH, hmb, HSB⟩ := hcut
                have HB6 := Lib.hid hB
                clear hB HB7
                have HRE := Lib.hid (show [] ++ ts.take k ++ [x] ++ ts.drop b = R by rw [← HRR.out, addDp_is HPK.out HBH.out]; simp)
                have HNE := Lib.hid (show 0 + k + 1 + m = NR by rw [← HNR.out, ← HRR.out, addDp_is HPK.out HBH.out, List.length_append, List.length_cons, List.length_take, List.length_drop, HL.out]; omega)
                have hnr : NR ≤ 17 := by have := HNE.out; omega
                have HSK := Lib.hid (fun (v : World) (hv : Below w.heap.size w v) => show SrcDp v w.heap.size (some ⟨g, 0, none⟩) k cap (ts.take k) from src_take (hts.out.below hv) (by omega) _)
                go_upto_region 9 with fail
                go_cut [8] (fun v wx => ∃ A3 c3, v = .slice A3 NR c3 ∧ RX w X x (.slice A3 NR c3) NR R wx)
                case first =>
                  rename_i J0 K0 hJ0 hK0
                  refine wp_region_held_drew (S := (fun v => v.cell? ⟨X, 0, none⟩ = some (.int .i64 x.day) ∧ v.cell? ⟨X, 1, none⟩ = some (.int .i64 x.tn) ∧ BX w X x v)) (by kernel_rfl) ?_ (fun hHeld => ?_)
                  · exact s_mk (HB6.out.drewN 1)
                  obtain ⟨V0, HV0⟩ : ∃ V, Hid (wc.drew = V) := ⟨_, Lib.hid rfl⟩
                  have HX0 := Lib.hid (show BX w X x V0 by rw [← HV0.out]; exact HB6.out.drewN 1)
                  rw [HV0.out] at hHeld ⊢
                  clear HV0
                  refine' wpAnyH_take (i := 1) (v := ?vr1_1) rfl (by kernel_rfl) (by kernel_rfl) (by kernel_rfl) (fun _ _ _ h => h) (Or.inl ⟨by rfl, ?hyr1_1⟩) (by assumption) ?restr1_1
                  case hyr1_1 => (intro w hSw; (try dsimp only at hSw); go_simp; try (with_reducible rfl))
                  simp only [Act.put, List.getElem_toArray, List.getElem_cons_succ, List.getElem_cons_zero, List.setIfInBounds_toArray, List.set_cons_zero, List.set_cons_succ]
                  refine' wpAnyH_take (i := 2) (v := ?vr1_2) rfl (by kernel_rfl) (by kernel_rfl) (by kernel_rfl) (fun _ _ _ h => h) (Or.inl ⟨by rfl, ?hyr1_2⟩) (by assumption) ?restr1_2
                  case hyr1_2 => (intro w hSw; (try dsimp only at hSw); go_simp; try (with_reducible rfl))
                  simp only [Act.put, List.getElem_toArray, List.getElem_cons_succ, List.getElem_cons_zero, List.setIfInBounds_toArray, List.set_cons_zero, List.set_cons_succ]
                  refine' wpAnyH_take (i := 3) (v := ?vr1_3) rfl (by kernel_rfl) (by kernel_rfl) (by kernel_rfl) (fun _ _ _ h => h) (Or.inl ⟨by rfl, ?hyr1_3⟩) (by assumption) ?restr1_3
                  case hyr1_3 => (intro w hSw; (try dsimp only at hSw); go_simp; try (with_reducible rfl))
                  simp only [Act.put, List.getElem_toArray, List.getElem_cons_succ, List.getElem_cons_zero, List.setIfInBounds_toArray, List.set_cons_zero, List.set_cons_succ]
                  refine' wpAnyH_take (i := 5) (v := ?vr1_5) rfl (by kernel_rfl) (by kernel_rfl) (by kernel_rfl) (fun _ _ _ h => h) (Or.inl ⟨by rfl, ?hyr1_5⟩) (by assumption) ?restr1_5
                  case hyr1_5 => (intro w hSw; (try dsimp only at hSw); go_simp; try (with_reducible rfl))
                  simp only [Act.put, List.getElem_toArray, List.getElem_cons_succ, List.getElem_cons_zero, List.setIfInBounds_toArray, List.set_cons_zero, List.set_cons_succ]
                  refine' wpAnyH_take (i := 8) (v := ?vr1_8) rfl (by kernel_rfl) (by kernel_rfl) (by kernel_rfl) (fun _ _ _ h => h) (Or.inl ⟨by rfl, ?hyr1_8⟩) (by assumption) ?restr1_8
                  case hyr1_8 => (intro w hSw; (try dsimp only at hSw); go_simp; try (with_reducible rfl))
                  simp only [Act.put, List.getElem_toArray, List.getElem_cons_succ, List.getElem_cons_zero, List.setIfInBounds_toArray, List.set_cons_zero, List.set_cons_succ]
                  refine wpAnyH_ready (rs := [0, 6]) (by kernel_rfl) (by simp) ?_
                  refine AllReadyH.cons rfl (fun K hK => ?_) (AllReadyH.cons rfl (fun K hK => ?_) AllReadyH.nil)
                  · go_simp
                    refine hK.out _ _ (s_mk (HX0.out.alloc _)) (fun hHeld1 => ?_)
                    clear hK K hHeld
                    have hHeld := hHeld1
                    clear hHeld1
                    try simp only [Act.put, List.getElem_toArray, List.getElem_cons_succ, List.getElem_cons_zero, List.setIfInBounds_toArray, List.set_cons_zero, List.set_cons_succ]
                    obtain ⟨g1, HG1⟩ : ∃ G, Hid (V0.heap.size = G) := ⟨_, Lib.hid rfl⟩
                    obtain ⟨V1, HW1⟩ : ∃ W, Hid (V0.alloc (.cells #[] 42) = W) := ⟨_, Lib.hid rfl⟩
                    have HR1 := Lib.hid (show RX w X x (.slice (some ⟨g1, 0, none⟩) 0 0) 0 [] V1 by rw [← HW1.out, ← HG1.out]; exact rx_new HX0.out)
                    rw [HW1.out] at hHeld ⊢
                    try rw [HG1.out]
                    clear HW1 HG1
                    refine wpAnyH_ready (rs := [4, 6]) (by kernel_rfl) (by simp) ?_
                    refine AllReadyH.cons rfl (fun K hK => ?_) (AllReadyH.cons rfl (fun K hK => ?_) AllReadyH.nil)
                    · refine step_src rfl _ _ rfl rfl HR1.out.2 rfl (HSK.out V1 HR1.out.1.1) (by omega) HR1.out.1.2.1.lt ?_
                      intro v2 V2 ho hg
                      have HR2 := Lib.hid (show RX w X x v2 (0 + k) ([] ++ (ts.take k)) V2 from HR1.out.app (vs := (ts.take k)) ho hg)
                      refine hK.out _ _ (s_mk HR2.out.1) (fun hHeld1 => ?_)
                      clear ho hg
                      clear hK K hHeld
                      have hHeld := hHeld1
                      clear hHeld1
                      try simp only [Act.put, List.getElem_toArray, List.getElem_cons_succ, List.getElem_cons_zero, List.setIfInBounds_toArray, List.set_cons_zero, List.set_cons_succ]
                      refine wpAnyH_ready (rs := [6]) (by kernel_rfl) (by simp) ?_
                      refine AllReadyH.cons rfl (fun K hK => ?_) AllReadyH.nil
                      go_simp
                      refine hK.out _ _ (s_mk (HR2.out.1.alloc _)) (fun hHeld1 => ?_)
                      clear hK K hHeld
                      have hHeld := hHeld1
                      clear hHeld1
                      try simp only [Act.put, List.getElem_toArray, List.getElem_cons_succ, List.getElem_cons_zero, List.setIfInBounds_toArray, List.set_cons_zero, List.set_cons_succ]
                      obtain ⟨g3, HG3⟩ : ∃ G, Hid (V2.heap.size = G) := ⟨_, Lib.hid rfl⟩
                      obtain ⟨V3, HW3⟩ : ∃ W, Hid (V2.alloc (.cells #[.int .i64 x.day, .int .i64 x.tn] 42) = W) := ⟨_, Lib.hid rfl⟩
                      have HX3 := Lib.hid (show BX w X x V3 by rw [← HW3.out]; exact HR2.out.1.alloc _)
                      have HR3 := Lib.hid (show RX w X x v2 (0 + k) ([] ++ (ts.take k)) V3 by rw [← HW3.out]; exact HR2.out.alloc _)
                      have HY3 := Lib.hid (show Blk V3 g3 42 #[.int .i64 x.day, .int .i64 x.tn] by rw [← HW3.out, ← HG3.out]; exact Blk.new _ _ _)
                      rw [HW3.out] at hHeld ⊢
                      try rw [HG3.out]
                      clear HW3 HG3
                      refine wpAnyH_ready (rs := [7]) (by kernel_rfl) (by simp) ?_
                      refine AllReadyH.cons rfl (fun K hK => ?_) AllReadyH.nil
                      refine step_src rfl _ _ rfl rfl HR3.out.2 rfl (src_one (B := V3.heap.size) HY3.out rfl HY3.out.lt 1) (by omega) HR3.out.1.2.1.lt ?_
                      intro v4 V4 ho hg
                      have HR4 := Lib.hid (show RX w X x v4 ((0 + k) + 1) (([] ++ (ts.take k)) ++ [x]) V4 from HR3.out.app (vs := [x]) ho hg)
                      refine hK.out _ _ (s_mk HR4.out.1) (fun hHeld1 => ?_)
                      clear ho hg
                      clear hK K hHeld
                      have hHeld := hHeld1
                      clear hHeld1
                      try simp only [Act.put, List.getElem_toArray, List.getElem_cons_succ, List.getElem_cons_zero, List.setIfInBounds_toArray, List.set_cons_zero, List.set_cons_succ]
                      refine wpAnyH_ready (rs := [9]) (by kernel_rfl) (by simp) ?_
                      refine AllReadyH.cons rfl (fun K hK => ?_) AllReadyH.nil
                      refine step_src rfl _ _ rfl rfl HR4.out.2 rfl (HSB.out V4 HR4.out.1.1) (by omega) HR4.out.1.2.1.lt ?_
                      intro v5 V5 ho hg
                      have HR5 := Lib.hid (show RX w X x v5 (((0 + k) + 1) + m) ((([] ++ (ts.take k)) ++ [x]) ++ (ts.drop b)) V5 from HR4.out.app (vs := (ts.drop b)) ho hg)
                      refine hK.out _ _ (s_mk HR5.out.1) (fun hHeld1 => ?_)
                      clear ho hg
                      clear hK K hHeld
                      have hHeld := hHeld1
                      clear hHeld1
                      try simp only [Act.put, List.getElem_toArray, List.getElem_cons_succ, List.getElem_cons_zero, List.setIfInBounds_toArray, List.set_cons_zero, List.set_cons_succ]
                      refine' wpAnyH_take (i := 10) (v := ?vr2_10) rfl (by kernel_rfl) (by kernel_rfl) (by kernel_rfl) (fun _ _ _ h => h) (Or.inl ⟨by rfl, ?hyr2_10⟩) (by assumption) ?restr2_10
                      case hyr2_10 => (intro w hSw; (try dsimp only at hSw); go_simp; try (with_reducible rfl))
                      simp only [Act.put, List.getElem_toArray, List.getElem_cons_succ, List.getElem_cons_zero, List.setIfInBounds_toArray, List.set_cons_zero, List.set_cons_succ]
                      refine wpAnyH_done (by kernel_rfl) ?_ _
                      have HF := Lib.hid (show RX w X x v5 NR R V5 by have h := HR5.out; rw [HRE.out] at h; rw [HNE.out] at h; exact h)
                      obtain ⟨A3, c3, rfl⟩ := row_slice HF.out.2
                      first | refine hK0 _ _ (Met.intro (hJ0 _ _ ?_)) | refine Met.intro (hK0 _ _ (Met.intro (hJ0 _ _ ?_)))
                      (repeat apply Exists.intro)
                      exact ⟨⟨A3, c3, rfl, HF.out⟩, rfl⟩
                    · go_simp
                      refine hK.out _ _ (s_mk (HR1.out.1.alloc _)) (fun hHeld1 => ?_)
                      clear hK K hHeld
                      have hHeld := hHeld1
                      clear hHeld1
                      try simp only [Act.put, List.getElem_toArray, List.getElem_cons_succ, List.getElem_cons_zero, List.setIfInBounds_toArray, List.set_cons_zero, List.set_cons_succ]
                      obtain ⟨g6, HG6⟩ : ∃ G, Hid (V1.heap.size = G) := ⟨_, Lib.hid rfl⟩
                      obtain ⟨V6, HW6⟩ : ∃ W, Hid (V1.alloc (.cells #[.int .i64 x.day, .int .i64 x.tn] 42) = W) := ⟨_, Lib.hid rfl⟩
                      have HX6 := Lib.hid (show BX w X x V6 by rw [← HW6.out]; exact HR1.out.1.alloc _)
                      have HR6 := Lib.hid (show RX w X x (.slice (some ⟨g1, 0, none⟩) 0 0) 0 [] V6 by rw [← HW6.out]; exact HR1.out.alloc _)
                      have HY6 := Lib.hid (show Blk V6 g6 42 #[.int .i64 x.day, .int .i64 x.tn] ∧ g1 ≠ g6 by rw [← HW6.out, ← HG6.out]; exact ⟨Blk.new _ _ _, by have := (HR1.out.2.lt g1 rfl).2; omega⟩)
                      rw [HW6.out] at hHeld ⊢
                      try rw [HG6.out]
                      clear HW6 HG6
                      refine wpAnyH_ready (rs := [4]) (by kernel_rfl) (by simp) ?_
                      refine AllReadyH.cons rfl (fun K hK => ?_) AllReadyH.nil
                      refine step_src rfl _ _ rfl rfl HR6.out.2 rfl (HSK.out V6 HR6.out.1.1) (by omega) HR6.out.1.2.1.lt ?_
                      intro v7 V7 ho hg
                      have HR7 := Lib.hid (show RX w X x v7 (0 + k) ([] ++ (ts.take k)) V7 from HR6.out.app (vs := (ts.take k)) ho hg)
                      have HY7 := Lib.hid (show Blk V7 g6 42 #[.int .i64 x.day, .int .i64 x.tn] from (HY6.out.1).grown hg (by intro e; have e := Option.some.inj e; exact HY6.out.2 e.symm))
                      refine hK.out _ _ (s_mk HR7.out.1) (fun hHeld1 => ?_)
                      clear ho hg
                      clear hK K hHeld
                      have hHeld := hHeld1
                      clear hHeld1
                      try simp only [Act.put, List.getElem_toArray, List.getElem_cons_succ, List.getElem_cons_zero, List.setIfInBounds_toArray, List.set_cons_zero, List.set_cons_succ]
                      refine wpAnyH_ready (rs := [7]) (by kernel_rfl) (by simp) ?_
                      refine AllReadyH.cons rfl (fun K hK => ?_) AllReadyH.nil
                      refine step_src rfl _ _ rfl rfl HR7.out.2 rfl (src_one (B := V7.heap.size) HY7.out rfl HY7.out.lt 1) (by omega) HR7.out.1.2.1.lt ?_
                      intro v8 V8 ho hg
                      have HR8 := Lib.hid (show RX w X x v8 ((0 + k) + 1) (([] ++ (ts.take k)) ++ [x]) V8 from HR7.out.app (vs := [x]) ho hg)
                      refine hK.out _ _ (s_mk HR8.out.1) (fun hHeld1 => ?_)
                      clear ho hg
                      clear hK K hHeld
                      have hHeld := hHeld1
                      clear hHeld1
                      try simp only [Act.put, List.getElem_toArray, List.getElem_cons_succ, List.getElem_cons_zero, List.setIfInBounds_toArray, List.set_cons_zero, List.set_cons_succ]
                      refine wpAnyH_ready (rs := [9]) (by kernel_rfl) (by simp) ?_
                      refine AllReadyH.cons rfl (fun K hK => ?_) AllReadyH.nil
                      refine step_src rfl _ _ rfl rfl HR8.out.2 rfl (HSB.out V8 HR8.out.1.1) (by omega) HR8.out.1.2.1.lt ?_
                      intro v9 V9 ho hg
                      have HR9 := Lib.hid (show RX w X x v9 (((0 + k) + 1) + m) ((([] ++ (ts.take k)) ++ [x]) ++ (ts.drop b)) V9 from HR8.out.app (vs := (ts.drop b)) ho hg)
                      refine hK.out _ _ (s_mk HR9.out.1) (fun hHeld1 => ?_)
                      clear ho hg
                      clear hK K hHeld
                      have hHeld := hHeld1
                      clear hHeld1
                      try simp only [Act.put, List.getElem_toArray, List.getElem_cons_succ, List.getElem_cons_zero, List.setIfInBounds_toArray, List.set_cons_zero, List.set_cons_succ]
                      refine' wpAnyH_take (i := 10) (v := ?vr3_10) rfl (by kernel_rfl) (by kernel_rfl) (by kernel_rfl) (fun _ _ _ h => h) (Or.inl ⟨by rfl, ?hyr3_10⟩) (by assumption) ?restr3_10
                      case hyr3_10 => (intro w hSw; (try dsimp only at hSw); go_simp; try (with_reducible rfl))
                      simp only [Act.put, List.getElem_toArray, List.getElem_cons_succ, List.getElem_cons_zero, List.setIfInBounds_toArray, List.set_cons_zero, List.set_cons_succ]
                      refine wpAnyH_done (by kernel_rfl) ?_ _
                      have HF := Lib.hid (show RX w X x v9 NR R V9 by have h := HR9.out; rw [HRE.out] at h; rw [HNE.out] at h; exact h)
                      obtain ⟨A3, c3, rfl⟩ := row_slice HF.out.2
                      first | refine hK0 _ _ (Met.intro (hJ0 _ _ ?_)) | refine Met.intro (hK0 _ _ (Met.intro (hJ0 _ _ ?_)))
                      (repeat apply Exists.intro)
                      exact ⟨⟨A3, c3, rfl, HF.out⟩, rfl⟩
                  · go_simp
                    refine hK.out _ _ (s_mk (HX0.out.alloc _)) (fun hHeld1 => ?_)
                    clear hK K hHeld
                    have hHeld := hHeld1
                    clear hHeld1
                    try simp only [Act.put, List.getElem_toArray, List.getElem_cons_succ, List.getElem_cons_zero, List.setIfInBounds_toArray, List.set_cons_zero, List.set_cons_succ]
                    obtain ⟨g10, HG10⟩ : ∃ G, Hid (V0.heap.size = G) := ⟨_, Lib.hid rfl⟩
                    obtain ⟨V10, HW10⟩ : ∃ W, Hid (V0.alloc (.cells #[.int .i64 x.day, .int .i64 x.tn] 42) = W) := ⟨_, Lib.hid rfl⟩
                    have HX10 := Lib.hid (show BX w X x V10 by rw [← HW10.out]; exact HX0.out.alloc _)
                    have HY10 := Lib.hid (show Blk V10 g10 42 #[.int .i64 x.day, .int .i64 x.tn] by rw [← HW10.out, ← HG10.out]; exact Blk.new _ _ _)
                    rw [HW10.out] at hHeld ⊢
                    try rw [HG10.out]
                    clear HW10 HG10
                    refine wpAnyH_ready (rs := [0]) (by kernel_rfl) (by simp) ?_
                    refine AllReadyH.cons rfl (fun K hK => ?_) AllReadyH.nil
                    go_simp
                    refine hK.out _ _ (s_mk (HX10.out.alloc _)) (fun hHeld1 => ?_)
                    clear hK K hHeld
                    have hHeld := hHeld1
                    clear hHeld1
                    try simp only [Act.put, List.getElem_toArray, List.getElem_cons_succ, List.getElem_cons_zero, List.setIfInBounds_toArray, List.set_cons_zero, List.set_cons_succ]
                    obtain ⟨g11, HG11⟩ : ∃ G, Hid (V10.heap.size = G) := ⟨_, Lib.hid rfl⟩
                    obtain ⟨V11, HW11⟩ : ∃ W, Hid (V10.alloc (.cells #[] 42) = W) := ⟨_, Lib.hid rfl⟩
                    have HR11 := Lib.hid (show RX w X x (.slice (some ⟨g11, 0, none⟩) 0 0) 0 [] V11 by rw [← HW11.out, ← HG11.out]; exact rx_new HX10.out)
                    have HY11 := Lib.hid (show Blk V11 g10 42 #[.int .i64 x.day, .int .i64 x.tn] ∧ g11 ≠ g10 by rw [← HW11.out, ← HG11.out]; have h := HY10.out; exact ⟨h.alloc _, by have := h.lt; omega⟩)
                    rw [HW11.out] at hHeld ⊢
                    try rw [HG11.out]
                    clear HW11 HG11
                    refine wpAnyH_ready (rs := [4]) (by kernel_rfl) (by simp) ?_
                    refine AllReadyH.cons rfl (fun K hK => ?_) AllReadyH.nil
                    refine step_src rfl _ _ rfl rfl HR11.out.2 rfl (HSK.out V11 HR11.out.1.1) (by omega) HR11.out.1.2.1.lt ?_
                    intro v12 V12 ho hg
                    have HR12 := Lib.hid (show RX w X x v12 (0 + k) ([] ++ (ts.take k)) V12 from HR11.out.app (vs := (ts.take k)) ho hg)
                    have HY12 := Lib.hid (show Blk V12 g10 42 #[.int .i64 x.day, .int .i64 x.tn] from (HY11.out.1).grown hg (by intro e; have e := Option.some.inj e; exact HY11.out.2 e.symm))
                    refine hK.out _ _ (s_mk HR12.out.1) (fun hHeld1 => ?_)
                    clear ho hg
                    clear hK K hHeld
                    have hHeld := hHeld1
                    clear hHeld1
                    try simp only [Act.put, List.getElem_toArray, List.getElem_cons_succ, List.getElem_cons_zero, List.setIfInBounds_toArray, List.set_cons_zero, List.set_cons_succ]
                    refine wpAnyH_ready (rs := [7]) (by kernel_rfl) (by simp) ?_
                    refine AllReadyH.cons rfl (fun K hK => ?_) AllReadyH.nil
                    refine step_src rfl _ _ rfl rfl HR12.out.2 rfl (src_one (B := V12.heap.size) HY12.out rfl HY12.out.lt 1) (by omega) HR12.out.1.2.1.lt ?_
                    intro v13 V13 ho hg
                    have HR13 := Lib.hid (show RX w X x v13 ((0 + k) + 1) (([] ++ (ts.take k)) ++ [x]) V13 from HR12.out.app (vs := [x]) ho hg)
                    refine hK.out _ _ (s_mk HR13.out.1) (fun hHeld1 => ?_)
                    clear ho hg
                    clear hK K hHeld
                    have hHeld := hHeld1
                    clear hHeld1
                    try simp only [Act.put, List.getElem_toArray, List.getElem_cons_succ, List.getElem_cons_zero, List.setIfInBounds_toArray, List.set_cons_zero, List.set_cons_succ]
                    refine wpAnyH_ready (rs := [9]) (by kernel_rfl) (by simp) ?_
                    refine AllReadyH.cons rfl (fun K hK => ?_) AllReadyH.nil
                    refine step_src rfl _ _ rfl rfl HR13.out.2 rfl (HSB.out V13 HR13.out.1.1) (by omega) HR13.out.1.2.1.lt ?_
                    intro v14 V14 ho hg
                    have HR14 := Lib.hid (show RX w X x v14 (((0 + k) + 1) + m) ((([] ++ (ts.take k)) ++ [x]) ++ (ts.drop b)) V14 from HR13.out.app (vs := (ts.drop b)) ho hg)
                    refine hK.out _ _ (s_mk HR14.out.1) (fun hHeld1 => ?_)
                    clear ho hg
                    clear hK K hHeld
                    have hHeld := hHeld1
                    clear hHeld1
                    try simp only [Act.put, List.getElem_toArray, List.getElem_cons_succ, List.getElem_cons_zero, List.setIfInBounds_toArray, List.set_cons_zero, List.set_cons_succ]
                    refine' wpAnyH_take (i := 10) (v := ?vr4_10) rfl (by kernel_rfl) (by kernel_rfl) (by kernel_rfl) (fun _ _ _ h => h) (Or.inl ⟨by rfl, ?hyr4_10⟩) (by assumption) ?restr4_10
                    case hyr4_10 => (intro w hSw; (try dsimp only at hSw); go_simp; try (with_reducible rfl))
                    simp only [Act.put, List.getElem_toArray, List.getElem_cons_succ, List.getElem_cons_zero, List.setIfInBounds_toArray, List.set_cons_zero, List.set_cons_succ]
                    refine wpAnyH_done (by kernel_rfl) ?_ _
                    have HF := Lib.hid (show RX w X x v14 NR R V14 by have h := HR14.out; rw [HRE.out] at h; rw [HNE.out] at h; exact h)
                    obtain ⟨A3, c3, rfl⟩ := row_slice HF.out.2
                    first | refine hK0 _ _ (Met.intro (hJ0 _ _ ?_)) | refine Met.intro (hK0 _ _ (Met.intro (hJ0 _ _ ?_)))
                    (repeat apply Exists.intro)
                    exact ⟨⟨A3, c3, rfl, HF.out⟩, rfl⟩
                case rest =>
                  obtain ⟨A3, c3, rfl, hR⟩ := hcut
                  have HR := Lib.hid hR
                  clear hR
                  go_wp2_with fail
                  refine (good_is A3 NR c3 R G2 HG2 _ (by omega) (Lib.hid (own_Dp HNR.out HR.out.2))).mono ?_
                  rintro e w8 ⟨rfl, b8⟩
                  have HR8 := Lib.hid (HR.out.step b8)
                  clear b8 HR
                  cases G2
                  · have HNO := Lib.hid (HFO.out rfl)
                    go_wp2_with fail
                    go_ret2
                    exact ⟨_, by rw [HNO.out]; rfl, by rw [apV_no HNO.out]; exact made1 w w8 HR8.out.1.1.size 42 2, HR8.out.1.1.alloc HR8.out.1.1.size _⟩
                  · have HYE := Lib.hid (HFT.out rfl)
                    go_wp2_with fail
                    go_ret2
                    exact ⟨_, by rw [HYE.out]; rfl, by rw [apV_yes HYE.out, HRR.out, HNR.out]; exact own_low (by have := HR8.out.1.2.2; omega) HR8.out.2, HR8.out.1.1⟩
      · obtain rfl : k = n := by omega
        have hkd : decide (k < k) = false := by simp
        have HPK := Lib.hid (show pos ts x.day = k from pos_is ts x.day k (by rw [HL.out]; omega) HLO.out (fun p hp => by have := lt_at hp; rw [HL.out] at this; omega))
        have HBH := Lib.hid (behind_end HPK.out HL.out)
        go_wp2_with fail
        go_quiet (fail)
        have hB5 := HB.out
        rcases HCP.out with ⟨g, rfl, hkc⟩ | ⟨rfl, rfl, rfl⟩
        · have hkci : (k : Int) ≤ (cap : Int) := by omega
          go_upto_region 6 with fail
          go_cut [7] (fun v wx => ∃ (R0 : Option Addr) (c2 : Nat), v = .slice R0 0 c2 ∧ BX w X x wx ∧ Hid (∀ u : World, Below w.heap.size w u → SrcDp u w.heap.size R0 0 c2 (ts.drop k)))
          case first =>
            by_cases hce : cap = k
            · subst hce
              go_wp2_with fail
              go_meet
              case rel => exact ⟨_, _, rfl, HB.out.step (ends_b _ _), Lib.hid (fun u hu => by rw [List.drop_of_length_le (by rw [HL.out]; exact Nat.le_refl _)]; exact src_end _ _ ⟨g, 0, none⟩ _)⟩
            · have hcc2 : ¬ (cap : Int) = (k : Int) := by omega
              go_wp2_with fail
              go_meet
              case rel => exact ⟨_, _, rfl, HB.out.step (ends_b _ _), Lib.hid (fun u hu => by rw [List.drop_of_length_le (by rw [HL.out]; exact Nat.le_refl _)]; exact src_end _ _ ⟨g, k * 2, none⟩ _)⟩
          case rest =>
            obtain ⟨R0, c2, rfl, hB, HSB⟩ := hcut
            have HB5 := Lib.hid hB
            clear hB HB hB5
            go_upto_region 7 with fail
            go_cut [48] (fun v wx => v = .bool false ∧ BX w X x wx)
            case first =>
              rename_i J0 K0 hJ0 hK0
              go_quiet (fail)
              first | refine hJ0 _ _ ?_ | refine hK0 _ _ (Met.intro (hJ0 _ _ ?_)) | refine Met.intro (hK0 _ _ (Met.intro (hJ0 _ _ ?_)))
              (repeat apply Exists.intro)
              exact ⟨⟨rfl, HB5.out.drewN _⟩, rfl⟩
            case rest =>
              obtain ⟨rfl, hB⟩ := hcut
              have HB6 := Lib.hid hB
              clear hB HB5
              have HRE := Lib.hid (show [] ++ ts.take k ++ [x] ++ ts.drop k = R by rw [← HRR.out, addDp_is HPK.out HBH.out]; simp)
              have HNE := Lib.hid (show 0 + k + 1 + 0 = NR by rw [← HNR.out, ← HRR.out, addDp_is HPK.out HBH.out, List.length_append, List.length_cons, List.length_take, List.length_drop, HL.out]; omega)
              have hnr : NR ≤ 17 := by have := HNE.out; omega
              have HSK := Lib.hid (fun (v : World) (hv : Below w.heap.size w v) => show SrcDp v w.heap.size (some ⟨g, 0, none⟩) k cap (ts.take k) from src_take (hts.out.below hv) (Nat.le_refl _) _)
              go_upto_region 9 with fail
              go_cut [8] (fun v wx => ∃ A3 c3, v = .slice A3 NR c3 ∧ RX w X x (.slice A3 NR c3) NR R wx)
              case first =>
                rename_i J0 K0 hJ0 hK0
                refine wp_region_held_drew (S := (fun v => v.cell? ⟨X, 0, none⟩ = some (.int .i64 x.day) ∧ v.cell? ⟨X, 1, none⟩ = some (.int .i64 x.tn) ∧ BX w X x v)) (by kernel_rfl) ?_ (fun hHeld => ?_)
                · exact s_mk (HB6.out.drewN 1)
                obtain ⟨V15, HV0⟩ : ∃ V, Hid (wc.drew = V) := ⟨_, Lib.hid rfl⟩
                have HX15 := Lib.hid (show BX w X x V15 by rw [← HV0.out]; exact HB6.out.drewN 1)
                rw [HV0.out] at hHeld ⊢
                clear HV0
                refine' wpAnyH_take (i := 1) (v := ?vr5_1) rfl (by kernel_rfl) (by kernel_rfl) (by kernel_rfl) (fun _ _ _ h => h) (Or.inl ⟨by rfl, ?hyr5_1⟩) (by assumption) ?restr5_1
                case hyr5_1 => (intro w hSw; (try dsimp only at hSw); go_simp; try (with_reducible rfl))
                simp only [Act.put, List.getElem_toArray, List.getElem_cons_succ, List.getElem_cons_zero, List.setIfInBounds_toArray, List.set_cons_zero, List.set_cons_succ]
                refine' wpAnyH_take (i := 2) (v := ?vr5_2) rfl (by kernel_rfl) (by kernel_rfl) (by kernel_rfl) (fun _ _ _ h => h) (Or.inl ⟨by rfl, ?hyr5_2⟩) (by assumption) ?restr5_2
                case hyr5_2 => (intro w hSw; (try dsimp only at hSw); go_simp; try (with_reducible rfl))
                simp only [Act.put, List.getElem_toArray, List.getElem_cons_succ, List.getElem_cons_zero, List.setIfInBounds_toArray, List.set_cons_zero, List.set_cons_succ]
                refine' wpAnyH_take (i := 3) (v := ?vr5_3) rfl (by kernel_rfl) (by kernel_rfl) (by kernel_rfl) (fun _ _ _ h => h) (Or.inl ⟨by rfl, ?hyr5_3⟩) (by assumption) ?restr5_3
                case hyr5_3 => (intro w hSw; (try dsimp only at hSw); go_simp; try (with_reducible rfl))
                simp only [Act.put, List.getElem_toArray, List.getElem_cons_succ, List.getElem_cons_zero, List.setIfInBounds_toArray, List.set_cons_zero, List.set_cons_succ]
                refine' wpAnyH_take (i := 5) (v := ?vr5_5) rfl (by kernel_rfl) (by kernel_rfl) (by kernel_rfl) (fun _ _ _ h => h) (Or.inl ⟨by rfl, ?hyr5_5⟩) (by assumption) ?restr5_5
                case hyr5_5 => (intro w hSw; (try dsimp only at hSw); go_simp; try (with_reducible rfl))
                simp only [Act.put, List.getElem_toArray, List.getElem_cons_succ, List.getElem_cons_zero, List.setIfInBounds_toArray, List.set_cons_zero, List.set_cons_succ]
                refine' wpAnyH_take (i := 8) (v := ?vr5_8) rfl (by kernel_rfl) (by kernel_rfl) (by kernel_rfl) (fun _ _ _ h => h) (Or.inl ⟨by rfl, ?hyr5_8⟩) (by assumption) ?restr5_8
                case hyr5_8 => (intro w hSw; (try dsimp only at hSw); go_simp; try (with_reducible rfl))
                simp only [Act.put, List.getElem_toArray, List.getElem_cons_succ, List.getElem_cons_zero, List.setIfInBounds_toArray, List.set_cons_zero, List.set_cons_succ]
                refine wpAnyH_ready (rs := [0, 6]) (by kernel_rfl) (by simp) ?_
                refine AllReadyH.cons rfl (fun K hK => ?_) (AllReadyH.cons rfl (fun K hK => ?_) AllReadyH.nil)
                · go_simp
                  refine hK.out _ _ (s_mk (HX15.out.alloc _)) (fun hHeld1 => ?_)
                  clear hK K hHeld
                  have hHeld := hHeld1
                  clear hHeld1
                  try simp only [Act.put, List.getElem_toArray, List.getElem_cons_succ, List.getElem_cons_zero, List.setIfInBounds_toArray, List.set_cons_zero, List.set_cons_succ]
                  obtain ⟨g16, HG16⟩ : ∃ G, Hid (V15.heap.size = G) := ⟨_, Lib.hid rfl⟩
                  obtain ⟨V16, HW16⟩ : ∃ W, Hid (V15.alloc (.cells #[] 42) = W) := ⟨_, Lib.hid rfl⟩
                  have HR16 := Lib.hid (show RX w X x (.slice (some ⟨g16, 0, none⟩) 0 0) 0 [] V16 by rw [← HW16.out, ← HG16.out]; exact rx_new HX15.out)
                  rw [HW16.out] at hHeld ⊢
                  try rw [HG16.out]
                  clear HW16 HG16
                  refine wpAnyH_ready (rs := [4, 6]) (by kernel_rfl) (by simp) ?_
                  refine AllReadyH.cons rfl (fun K hK => ?_) (AllReadyH.cons rfl (fun K hK => ?_) AllReadyH.nil)
                  · refine step_src rfl _ _ rfl rfl HR16.out.2 rfl (HSK.out V16 HR16.out.1.1) (by omega) HR16.out.1.2.1.lt ?_
                    intro v17 V17 ho hg
                    have HR17 := Lib.hid (show RX w X x v17 (0 + k) ([] ++ (ts.take k)) V17 from HR16.out.app (vs := (ts.take k)) ho hg)
                    refine hK.out _ _ (s_mk HR17.out.1) (fun hHeld1 => ?_)
                    clear ho hg
                    clear hK K hHeld
                    have hHeld := hHeld1
                    clear hHeld1
                    try simp only [Act.put, List.getElem_toArray, List.getElem_cons_succ, List.getElem_cons_zero, List.setIfInBounds_toArray, List.set_cons_zero, List.set_cons_succ]
                    refine wpAnyH_ready (rs := [6]) (by kernel_rfl) (by simp) ?_
                    refine AllReadyH.cons rfl (fun K hK => ?_) AllReadyH.nil
                    go_simp
                    refine hK.out _ _ (s_mk (HR17.out.1.alloc _)) (fun hHeld1 => ?_)
                    clear hK K hHeld
                    have hHeld := hHeld1
                    clear hHeld1
                    try simp only [Act.put, List.getElem_toArray, List.getElem_cons_succ, List.getElem_cons_zero, List.setIfInBounds_toArray, List.set_cons_zero, List.set_cons_succ]
                    obtain ⟨g18, HG18⟩ : ∃ G, Hid (V17.heap.size = G) := ⟨_, Lib.hid rfl⟩
                    obtain ⟨V18, HW18⟩ : ∃ W, Hid (V17.alloc (.cells #[.int .i64 x.day, .int .i64 x.tn] 42) = W) := ⟨_, Lib.hid rfl⟩
                    have HX18 := Lib.hid (show BX w X x V18 by rw [← HW18.out]; exact HR17.out.1.alloc _)
                    have HR18 := Lib.hid (show RX w X x v17 (0 + k) ([] ++ (ts.take k)) V18 by rw [← HW18.out]; exact HR17.out.alloc _)
                    have HY18 := Lib.hid (show Blk V18 g18 42 #[.int .i64 x.day, .int .i64 x.tn] by rw [← HW18.out, ← HG18.out]; exact Blk.new _ _ _)
                    rw [HW18.out] at hHeld ⊢
                    try rw [HG18.out]
                    clear HW18 HG18
                    refine wpAnyH_ready (rs := [7]) (by kernel_rfl) (by simp) ?_
                    refine AllReadyH.cons rfl (fun K hK => ?_) AllReadyH.nil
                    refine step_src rfl _ _ rfl rfl HR18.out.2 rfl (src_one (B := V18.heap.size) HY18.out rfl HY18.out.lt 1) (by omega) HR18.out.1.2.1.lt ?_
                    intro v19 V19 ho hg
                    have HR19 := Lib.hid (show RX w X x v19 ((0 + k) + 1) (([] ++ (ts.take k)) ++ [x]) V19 from HR18.out.app (vs := [x]) ho hg)
                    refine hK.out _ _ (s_mk HR19.out.1) (fun hHeld1 => ?_)
                    clear ho hg
                    clear hK K hHeld
                    have hHeld := hHeld1
                    clear hHeld1
                    try simp only [Act.put, List.getElem_toArray, List.getElem_cons_succ, List.getElem_cons_zero, List.setIfInBounds_toArray, List.set_cons_zero, List.set_cons_succ]
                    refine wpAnyH_ready (rs := [9]) (by kernel_rfl) (by simp) ?_
                    refine AllReadyH.cons rfl (fun K hK => ?_) AllReadyH.nil
                    refine step_src rfl _ _ rfl rfl HR19.out.2 rfl (HSB.out V19 HR19.out.1.1) (by omega) HR19.out.1.2.1.lt ?_
                    intro v20 V20 ho hg
                    have HR20 := Lib.hid (show RX w X x v20 (((0 + k) + 1) + 0) ((([] ++ (ts.take k)) ++ [x]) ++ (ts.drop k)) V20 from HR19.out.app (vs := (ts.drop k)) ho hg)
                    refine hK.out _ _ (s_mk HR20.out.1) (fun hHeld1 => ?_)
                    clear ho hg
                    clear hK K hHeld
                    have hHeld := hHeld1
                    clear hHeld1
                    try simp only [Act.put, List.getElem_toArray, List.getElem_cons_succ, List.getElem_cons_zero, List.setIfInBounds_toArray, List.set_cons_zero, List.set_cons_succ]
                    refine' wpAnyH_take (i := 10) (v := ?vr6_10) rfl (by kernel_rfl) (by kernel_rfl) (by kernel_rfl) (fun _ _ _ h => h) (Or.inl ⟨by rfl, ?hyr6_10⟩) (by assumption) ?restr6_10
                    case hyr6_10 => (intro w hSw; (try dsimp only at hSw); go_simp; try (with_reducible rfl))
                    simp only [Act.put, List.getElem_toArray, List.getElem_cons_succ, List.getElem_cons_zero, List.setIfInBounds_toArray, List.set_cons_zero, List.set_cons_succ]
                    refine wpAnyH_done (by kernel_rfl) ?_ _
                    have HF := Lib.hid (show RX w X x v20 NR R V20 by have h := HR20.out; rw [HRE.out] at h; rw [HNE.out] at h; exact h)
                    obtain ⟨A3, c3, rfl⟩ := row_slice HF.out.2
                    first | refine hK0 _ _ (Met.intro (hJ0 _ _ ?_)) | refine Met.intro (hK0 _ _ (Met.intro (hJ0 _ _ ?_)))
                    (repeat apply Exists.intro)
                    exact ⟨⟨A3, c3, rfl, HF.out⟩, rfl⟩
                  · go_simp
                    refine hK.out _ _ (s_mk (HR16.out.1.alloc _)) (fun hHeld1 => ?_)
                    clear hK K hHeld
                    have hHeld := hHeld1
                    clear hHeld1
                    try simp only [Act.put, List.getElem_toArray, List.getElem_cons_succ, List.getElem_cons_zero, List.setIfInBounds_toArray, List.set_cons_zero, List.set_cons_succ]
                    obtain ⟨g21, HG21⟩ : ∃ G, Hid (V16.heap.size = G) := ⟨_, Lib.hid rfl⟩
                    obtain ⟨V21, HW21⟩ : ∃ W, Hid (V16.alloc (.cells #[.int .i64 x.day, .int .i64 x.tn] 42) = W) := ⟨_, Lib.hid rfl⟩
                    have HX21 := Lib.hid (show BX w X x V21 by rw [← HW21.out]; exact HR16.out.1.alloc _)
                    have HR21 := Lib.hid (show RX w X x (.slice (some ⟨g16, 0, none⟩) 0 0) 0 [] V21 by rw [← HW21.out]; exact HR16.out.alloc _)
                    have HY21 := Lib.hid (show Blk V21 g21 42 #[.int .i64 x.day, .int .i64 x.tn] ∧ g16 ≠ g21 by rw [← HW21.out, ← HG21.out]; exact ⟨Blk.new _ _ _, by have := (HR16.out.2.lt g16 rfl).2; omega⟩)
                    rw [HW21.out] at hHeld ⊢
                    try rw [HG21.out]
                    clear HW21 HG21
                    refine wpAnyH_ready (rs := [4]) (by kernel_rfl) (by simp) ?_
                    refine AllReadyH.cons rfl (fun K hK => ?_) AllReadyH.nil
                    refine step_src rfl _ _ rfl rfl HR21.out.2 rfl (HSK.out V21 HR21.out.1.1) (by omega) HR21.out.1.2.1.lt ?_
                    intro v22 V22 ho hg
                    have HR22 := Lib.hid (show RX w X x v22 (0 + k) ([] ++ (ts.take k)) V22 from HR21.out.app (vs := (ts.take k)) ho hg)
                    have HY22 := Lib.hid (show Blk V22 g21 42 #[.int .i64 x.day, .int .i64 x.tn] from (HY21.out.1).grown hg (by intro e; have e := Option.some.inj e; exact HY21.out.2 e.symm))
                    refine hK.out _ _ (s_mk HR22.out.1) (fun hHeld1 => ?_)
                    clear ho hg
                    clear hK K hHeld
                    have hHeld := hHeld1
                    clear hHeld1
                    try simp only [Act.put, List.getElem_toArray, List.getElem_cons_succ, List.getElem_cons_zero, List.setIfInBounds_toArray, List.set_cons_zero, List.set_cons_succ]
                    refine wpAnyH_ready (rs := [7]) (by kernel_rfl) (by simp) ?_
                    refine AllReadyH.cons rfl (fun K hK => ?_) AllReadyH.nil
                    refine step_src rfl _ _ rfl rfl HR22.out.2 rfl (src_one (B := V22.heap.size) HY22.out rfl HY22.out.lt 1) (by omega) HR22.out.1.2.1.lt ?_
                    intro v23 V23 ho hg
                    have HR23 := Lib.hid (show RX w X x v23 ((0 + k) + 1) (([] ++ (ts.take k)) ++ [x]) V23 from HR22.out.app (vs := [x]) ho hg)
                    refine hK.out _ _ (s_mk HR23.out.1) (fun hHeld1 => ?_)
                    clear ho hg
                    clear hK K hHeld
                    have hHeld := hHeld1
                    clear hHeld1
                    try simp only [Act.put, List.getElem_toArray, List.getElem_cons_succ, List.getElem_cons_zero, List.setIfInBounds_toArray, List.set_cons_zero, List.set_cons_succ]
                    refine wpAnyH_ready (rs := [9]) (by kernel_rfl) (by simp) ?_
                    refine AllReadyH.cons rfl (fun K hK => ?_) AllReadyH.nil
                    refine step_src rfl _ _ rfl rfl HR23.out.2 rfl (HSB.out V23 HR23.out.1.1) (by omega) HR23.out.1.2.1.lt ?_
                    intro v24 V24 ho hg
                    have HR24 := Lib.hid (show RX w X x v24 (((0 + k) + 1) + 0) ((([] ++ (ts.take k)) ++ [x]) ++ (ts.drop k)) V24 from HR23.out.app (vs := (ts.drop k)) ho hg)
                    refine hK.out _ _ (s_mk HR24.out.1) (fun hHeld1 => ?_)
                    clear ho hg
                    clear hK K hHeld
                    have hHeld := hHeld1
                    clear hHeld1
                    try simp only [Act.put, List.getElem_toArray, List.getElem_cons_succ, List.getElem_cons_zero, List.setIfInBounds_toArray, List.set_cons_zero, List.set_cons_succ]
                    refine' wpAnyH_take (i := 10) (v := ?vr7_10) rfl (by kernel_rfl) (by kernel_rfl) (by kernel_rfl) (fun _ _ _ h => h) (Or.inl ⟨by rfl, ?hyr7_10⟩) (by assumption) ?restr7_10
                    case hyr7_10 => (intro w hSw; (try dsimp only at hSw); go_simp; try (with_reducible rfl))
                    simp only [Act.put, List.getElem_toArray, List.getElem_cons_succ, List.getElem_cons_zero, List.setIfInBounds_toArray, List.set_cons_zero, List.set_cons_succ]
                    refine wpAnyH_done (by kernel_rfl) ?_ _
                    have HF := Lib.hid (show RX w X x v24 NR R V24 by have h := HR24.out; rw [HRE.out] at h; rw [HNE.out] at h; exact h)
                    obtain ⟨A3, c3, rfl⟩ := row_slice HF.out.2
                    first | refine hK0 _ _ (Met.intro (hJ0 _ _ ?_)) | refine Met.intro (hK0 _ _ (Met.intro (hJ0 _ _ ?_)))
                    (repeat apply Exists.intro)
                    exact ⟨⟨A3, c3, rfl, HF.out⟩, rfl⟩
                · go_simp
                  refine hK.out _ _ (s_mk (HX15.out.alloc _)) (fun hHeld1 => ?_)
                  clear hK K hHeld
                  have hHeld := hHeld1
                  clear hHeld1
                  try simp only [Act.put, List.getElem_toArray, List.getElem_cons_succ, List.getElem_cons_zero, List.setIfInBounds_toArray, List.set_cons_zero, List.set_cons_succ]
                  obtain ⟨g25, HG25⟩ : ∃ G, Hid (V15.heap.size = G) := ⟨_, Lib.hid rfl⟩
                  obtain ⟨V25, HW25⟩ : ∃ W, Hid (V15.alloc (.cells #[.int .i64 x.day, .int .i64 x.tn] 42) = W) := ⟨_, Lib.hid rfl⟩
                  have HX25 := Lib.hid (show BX w X x V25 by rw [← HW25.out]; exact HX15.out.alloc _)
                  have HY25 := Lib.hid (show Blk V25 g25 42 #[.int .i64 x.day, .int .i64 x.tn] by rw [← HW25.out, ← HG25.out]; exact Blk.new _ _ _)
                  rw [HW25.out] at hHeld ⊢
                  try rw [HG25.out]
                  clear HW25 HG25
                  refine wpAnyH_ready (rs := [0]) (by kernel_rfl) (by simp) ?_
                  refine AllReadyH.cons rfl (fun K hK => ?_) AllReadyH.nil
                  go_simp
                  refine hK.out _ _ (s_mk (HX25.out.alloc _)) (fun hHeld1 => ?_)
                  clear hK K hHeld
                  have hHeld := hHeld1
                  clear hHeld1
                  try simp only [Act.put, List.getElem_toArray, List.getElem_cons_succ, List.getElem_cons_zero, List.setIfInBounds_toArray, List.set_cons_zero, List.set_cons_succ]
                  obtain ⟨g26, HG26⟩ : ∃ G, Hid (V25.heap.size = G) := ⟨_, Lib.hid rfl⟩
                  obtain ⟨V26, HW26⟩ : ∃ W, Hid (V25.alloc (.cells #[] 42) = W) := ⟨_, Lib.hid rfl⟩
                  have HR26 := Lib.hid (show RX w X x (.slice (some ⟨g26, 0, none⟩) 0 0) 0 [] V26 by rw [← HW26.out, ← HG26.out]; exact rx_new HX25.out)
                  have HY26 := Lib.hid (show Blk V26 g25 42 #[.int .i64 x.day, .int .i64 x.tn] ∧ g26 ≠ g25 by rw [← HW26.out, ← HG26.out]; have h := HY25.out; exact ⟨h.alloc _, by have := h.lt; omega⟩)
                  rw [HW26.out] at hHeld ⊢
                  try rw [HG26.out]
                  clear HW26 HG26
                  refine wpAnyH_ready (rs := [4]) (by kernel_rfl) (by simp) ?_
                  refine AllReadyH.cons rfl (fun K hK => ?_) AllReadyH.nil
                  refine step_src rfl _ _ rfl rfl HR26.out.2 rfl (HSK.out V26 HR26.out.1.1) (by omega) HR26.out.1.2.1.lt ?_
                  intro v27 V27 ho hg
                  have HR27 := Lib.hid (show RX w X x v27 (0 + k) ([] ++ (ts.take k)) V27 from HR26.out.app (vs := (ts.take k)) ho hg)
                  have HY27 := Lib.hid (show Blk V27 g25 42 #[.int .i64 x.day, .int .i64 x.tn] from (HY26.out.1).grown hg (by intro e; have e := Option.some.inj e; exact HY26.out.2 e.symm))
                  refine hK.out _ _ (s_mk HR27.out.1) (fun hHeld1 => ?_)
                  clear ho hg
                  clear hK K hHeld
                  have hHeld := hHeld1
                  clear hHeld1
                  try simp only [Act.put, List.getElem_toArray, List.getElem_cons_succ, List.getElem_cons_zero, List.setIfInBounds_toArray, List.set_cons_zero, List.set_cons_succ]
                  refine wpAnyH_ready (rs := [7]) (by kernel_rfl) (by simp) ?_
                  refine AllReadyH.cons rfl (fun K hK => ?_) AllReadyH.nil
                  refine step_src rfl _ _ rfl rfl HR27.out.2 rfl (src_one (B := V27.heap.size) HY27.out rfl HY27.out.lt 1) (by omega) HR27.out.1.2.1.lt ?_
                  intro v28 V28 ho hg
                  have HR28 := Lib.hid (show RX w X x v28 ((0 + k) + 1) (([] ++ (ts.take k)) ++ [x]) V28 from HR27.out.app (vs := [x]) ho hg)
                  refine hK.out _ _ (s_mk HR28.out.1) (fun hHeld1 => ?_)
                  clear ho hg
                  clear hK K hHeld
                  have hHeld := hHeld1
                  clear hHeld1
                  try simp only [Act.put, List.getElem_toArray, List.getElem_cons_succ, List.getElem_cons_zero, List.setIfInBounds_toArray, List.set_cons_zero, List.set_cons_succ]
                  refine wpAnyH_ready (rs := [9]) (by kernel_rfl) (by simp) ?_
                  refine AllReadyH.cons rfl (fun K hK => ?_) AllReadyH.nil
                  refine step_src rfl _ _ rfl rfl HR28.out.2 rfl (HSB.out V28 HR28.out.1.1) (by omega) HR28.out.1.2.1.lt ?_
                  intro v29 V29 ho hg
                  have HR29 := Lib.hid (show RX w X x v29 (((0 + k) + 1) + 0) ((([] ++ (ts.take k)) ++ [x]) ++ (ts.drop k)) V29 from HR28.out.app (vs := (ts.drop k)) ho hg)
                  refine hK.out _ _ (s_mk HR29.out.1) (fun hHeld1 => ?_)
                  clear ho hg
                  clear hK K hHeld
                  have hHeld := hHeld1
                  clear hHeld1
                  try simp only [Act.put, List.getElem_toArray, List.getElem_cons_succ, List.getElem_cons_zero, List.setIfInBounds_toArray, List.set_cons_zero, List.set_cons_succ]
                  refine' wpAnyH_take (i := 10) (v := ?vr8_10) rfl (by kernel_rfl) (by kernel_rfl) (by kernel_rfl) (fun _ _ _ h => h) (Or.inl ⟨by rfl, ?hyr8_10⟩) (by assumption) ?restr8_10
                  case hyr8_10 => (intro w hSw; (try dsimp only at hSw); go_simp; try (with_reducible rfl))
                  simp only [Act.put, List.getElem_toArray, List.getElem_cons_succ, List.getElem_cons_zero, List.setIfInBounds_toArray, List.set_cons_zero, List.set_cons_succ]
                  refine wpAnyH_done (by kernel_rfl) ?_ _
                  have HF := Lib.hid (show RX w X x v29 NR R V29 by have h := HR29.out; rw [HRE.out] at h; rw [HNE.out] at h; exact h)
                  obtain ⟨A3, c3, rfl⟩ := row_slice HF.out.2
                  first | refine hK0 _ _ (Met.intro (hJ0 _ _ ?_)) | refine Met.intro (hK0 _ _ (Met.intro (hJ0 _ _ ?_)))
                  (repeat apply Exists.intro)
                  exact ⟨⟨A3, c3, rfl, HF.out⟩, rfl⟩
              case rest =>
                obtain ⟨A3, c3, rfl, hR⟩ := hcut
                have HR := Lib.hid hR
                clear hR
                go_wp2_with fail
                refine (good_is A3 NR c3 R G2 HG2 _ (by omega) (Lib.hid (own_Dp HNR.out HR.out.2))).mono ?_
                rintro e w8 ⟨rfl, b8⟩
                have HR8 := Lib.hid (HR.out.step b8)
                clear b8 HR
                cases G2
                · have HNO := Lib.hid (HFO.out rfl)
                  go_wp2_with fail
                  go_ret2
                  exact ⟨_, by rw [HNO.out]; rfl, by rw [apV_no HNO.out]; exact made1 w w8 HR8.out.1.1.size 42 2, HR8.out.1.1.alloc HR8.out.1.1.size _⟩
                · have HYE := Lib.hid (HFT.out rfl)
                  go_wp2_with fail
                  go_ret2
                  exact ⟨_, by rw [HYE.out]; rfl, by rw [apV_yes HYE.out, HRR.out, HNR.out]; exact own_low (by have := HR8.out.1.2.2; omega) HR8.out.2, HR8.out.1.1⟩
        · go_upto_region 6 with fail
          go_cut [7] (fun v wx => ∃ (R0 : Option Addr) (c2 : Nat), v = .slice R0 0 c2 ∧ BX w X x wx ∧ Hid (∀ u : World, Below w.heap.size w u → SrcDp u w.heap.size R0 0 c2 (ts.drop 0)))
          case first =>
            go_wp2_with fail
            go_meet
            case rel => exact ⟨none, 0, rfl, HB.out.step (ends_b _ _), Lib.hid (fun u hu => by rw [show ts = [] from List.length_eq_zero_iff.1 HL.out]; exact src_nil _ _)⟩
          case rest =>
            obtain ⟨R0, c2, rfl, hB, HSB⟩ := hcut
            have HB5 := Lib.hid hB
            clear hB HB hB5
            go_upto_region 7 with fail
            go_cut [48] (fun v wx => v = .bool false ∧ BX w X x wx)
            case first =>
              rename_i J0 K0 hJ0 hK0
              go_quiet (fail)
              first | refine hJ0 _ _ ?_ | refine hK0 _ _ (Met.intro (hJ0 _ _ ?_)) | refine Met.intro (hK0 _ _ (Met.intro (hJ0 _ _ ?_)))
              (repeat apply Exists.intro)
              exact ⟨⟨rfl, HB5.out.drewN _⟩, rfl⟩
            case rest =>
              obtain ⟨rfl, hB⟩ := hcut
              have HB6 := Lib.hid hB
              clear hB HB5
              have HRE := Lib.hid (show [] ++ ts.take 0 ++ [x] ++ ts.drop 0 = R by rw [← HRR.out, addDp_is HPK.out HBH.out]; simp)
              have HNE := Lib.hid (show 0 + 0 + 1 + 0 = NR by rw [← HNR.out, ← HRR.out, addDp_is HPK.out HBH.out, List.length_append, List.length_cons, List.length_take, List.length_drop, HL.out]; omega)
              have hnr : NR ≤ 17 := by have := HNE.out; omega
              have HSK := Lib.hid (fun (v : World) (hv : Below w.heap.size w v) => show SrcDp v w.heap.size none 0 0 (ts.take 0) from by rw [List.take_zero]; exact src_nil _ _)
              go_upto_region 9 with fail
              go_cut [8] (fun v wx => ∃ A3 c3, v = .slice A3 NR c3 ∧ RX w X x (.slice A3 NR c3) NR R wx)
              case first =>
                rename_i J0 K0 hJ0 hK0
                refine wp_region_held_drew (S := (fun v => v.cell? ⟨X, 0, none⟩ = some (.int .i64 x.day) ∧ v.cell? ⟨X, 1, none⟩ = some (.int .i64 x.tn) ∧ BX w X x v)) (by kernel_rfl) ?_ (fun hHeld => ?_)
                · exact s_mk (HB6.out.drewN 1)
                obtain ⟨V30, HV0⟩ : ∃ V, Hid (wc.drew = V) := ⟨_, Lib.hid rfl⟩
                have HX30 := Lib.hid (show BX w X x V30 by rw [← HV0.out]; exact HB6.out.drewN 1)
                rw [HV0.out] at hHeld ⊢
                clear HV0
                refine' wpAnyH_take (i := 1) (v := ?vr9_1) rfl (by kernel_rfl) (by kernel_rfl) (by kernel_rfl) (fun _ _ _ h => h) (Or.inl ⟨by rfl, ?hyr9_1⟩) (by assumption) ?restr9_1
                case hyr9_1 => (intro w hSw; (try dsimp only at hSw); go_simp; try (with_reducible rfl))
                simp only [Act.put, List.getElem_toArray, List.getElem_cons_succ, List.getElem_cons_zero, List.setIfInBounds_toArray, List.set_cons_zero, List.set_cons_succ]
                refine' wpAnyH_take (i := 2) (v := ?vr9_2) rfl (by kernel_rfl) (by kernel_rfl) (by kernel_rfl) (fun _ _ _ h => h) (Or.inl ⟨by rfl, ?hyr9_2⟩) (by assumption) ?restr9_2
                case hyr9_2 => (intro w hSw; (try dsimp only at hSw); go_simp; try (with_reducible rfl))
                simp only [Act.put, List.getElem_toArray, List.getElem_cons_succ, List.getElem_cons_zero, List.setIfInBounds_toArray, List.set_cons_zero, List.set_cons_succ]
                refine' wpAnyH_take (i := 3) (v := ?vr9_3) rfl (by kernel_rfl) (by kernel_rfl) (by kernel_rfl) (fun _ _ _ h => h) (Or.inl ⟨by rfl, ?hyr9_3⟩) (by assumption) ?restr9_3
                case hyr9_3 => (intro w hSw; (try dsimp only at hSw); go_simp; try (with_reducible rfl))
                simp only [Act.put, List.getElem_toArray, List.getElem_cons_succ, List.getElem_cons_zero, List.setIfInBounds_toArray, List.set_cons_zero, List.set_cons_succ]
                refine' wpAnyH_take (i := 5) (v := ?vr9_5) rfl (by kernel_rfl) (by kernel_rfl) (by kernel_rfl) (fun _ _ _ h => h) (Or.inl ⟨by rfl, ?hyr9_5⟩) (by assumption) ?restr9_5
                case hyr9_5 => (intro w hSw; (try dsimp only at hSw); go_simp; try (with_reducible rfl))
                simp only [Act.put, List.getElem_toArray, List.getElem_cons_succ, List.getElem_cons_zero, List.setIfInBounds_toArray, List.set_cons_zero, List.set_cons_succ]
                refine' wpAnyH_take (i := 8) (v := ?vr9_8) rfl (by kernel_rfl) (by kernel_rfl) (by kernel_rfl) (fun _ _ _ h => h) (Or.inl ⟨by rfl, ?hyr9_8⟩) (by assumption) ?restr9_8
                case hyr9_8 => (intro w hSw; (try dsimp only at hSw); go_simp; try (with_reducible rfl))
                simp only [Act.put, List.getElem_toArray, List.getElem_cons_succ, List.getElem_cons_zero, List.setIfInBounds_toArray, List.set_cons_zero, List.set_cons_succ]
                refine wpAnyH_ready (rs := [0, 6]) (by kernel_rfl) (by simp) ?_
                refine AllReadyH.cons rfl (fun K hK => ?_) (AllReadyH.cons rfl (fun K hK => ?_) AllReadyH.nil)
                · go_simp
                  refine hK.out _ _ (s_mk (HX30.out.alloc _)) (fun hHeld1 => ?_)
                  clear hK K hHeld
                  have hHeld := hHeld1
                  clear hHeld1
                  try simp only [Act.put, List.getElem_toArray, List.getElem_cons_succ, List.getElem_cons_zero, List.setIfInBounds_toArray, List.set_cons_zero, List.set_cons_succ]
                  obtain ⟨g31, HG31⟩ : ∃ G, Hid (V30.heap.size = G) := ⟨_, Lib.hid rfl⟩
                  obtain ⟨V31, HW31⟩ : ∃ W, Hid (V30.alloc (.cells #[] 42) = W) := ⟨_, Lib.hid rfl⟩
                  have HR31 := Lib.hid (show RX w X x (.slice (some ⟨g31, 0, none⟩) 0 0) 0 [] V31 by rw [← HW31.out, ← HG31.out]; exact rx_new HX30.out)
                  rw [HW31.out] at hHeld ⊢
                  try rw [HG31.out]
                  clear HW31 HG31
                  refine wpAnyH_ready (rs := [4, 6]) (by kernel_rfl) (by simp) ?_
                  refine AllReadyH.cons rfl (fun K hK => ?_) (AllReadyH.cons rfl (fun K hK => ?_) AllReadyH.nil)
                  · refine step_src rfl _ _ rfl rfl HR31.out.2 rfl (HSK.out V31 HR31.out.1.1) (by omega) HR31.out.1.2.1.lt ?_
                    intro v32 V32 ho hg
                    have HR32 := Lib.hid (show RX w X x v32 (0 + 0) ([] ++ (ts.take 0)) V32 from HR31.out.app (vs := (ts.take 0)) ho hg)
                    refine hK.out _ _ (s_mk HR32.out.1) (fun hHeld1 => ?_)
                    clear ho hg
                    clear hK K hHeld
                    have hHeld := hHeld1
                    clear hHeld1
                    try simp only [Act.put, List.getElem_toArray, List.getElem_cons_succ, List.getElem_cons_zero, List.setIfInBounds_toArray, List.set_cons_zero, List.set_cons_succ]
                    refine wpAnyH_ready (rs := [6]) (by kernel_rfl) (by simp) ?_
                    refine AllReadyH.cons rfl (fun K hK => ?_) AllReadyH.nil
                    go_simp
                    refine hK.out _ _ (s_mk (HR32.out.1.alloc _)) (fun hHeld1 => ?_)
                    clear hK K hHeld
                    have hHeld := hHeld1
                    clear hHeld1
                    try simp only [Act.put, List.getElem_toArray, List.getElem_cons_succ, List.getElem_cons_zero, List.setIfInBounds_toArray, List.set_cons_zero, List.set_cons_succ]
                    obtain ⟨g33, HG33⟩ : ∃ G, Hid (V32.heap.size = G) := ⟨_, Lib.hid rfl⟩
                    obtain ⟨V33, HW33⟩ : ∃ W, Hid (V32.alloc (.cells #[.int .i64 x.day, .int .i64 x.tn] 42) = W) := ⟨_, Lib.hid rfl⟩
                    have HX33 := Lib.hid (show BX w X x V33 by rw [← HW33.out]; exact HR32.out.1.alloc _)
                    have HR33 := Lib.hid (show RX w X x v32 (0 + 0) ([] ++ (ts.take 0)) V33 by rw [← HW33.out]; exact HR32.out.alloc _)
                    have HY33 := Lib.hid (show Blk V33 g33 42 #[.int .i64 x.day, .int .i64 x.tn] by rw [← HW33.out, ← HG33.out]; exact Blk.new _ _ _)
                    rw [HW33.out] at hHeld ⊢
                    try rw [HG33.out]
                    clear HW33 HG33
                    refine wpAnyH_ready (rs := [7]) (by kernel_rfl) (by simp) ?_
                    refine AllReadyH.cons rfl (fun K hK => ?_) AllReadyH.nil
                    refine step_src rfl _ _ rfl rfl HR33.out.2 rfl (src_one (B := V33.heap.size) HY33.out rfl HY33.out.lt 1) (by omega) HR33.out.1.2.1.lt ?_
                    intro v34 V34 ho hg
                    have HR34 := Lib.hid (show RX w X x v34 ((0 + 0) + 1) (([] ++ (ts.take 0)) ++ [x]) V34 from HR33.out.app (vs := [x]) ho hg)
                    refine hK.out _ _ (s_mk HR34.out.1) (fun hHeld1 => ?_)
                    clear ho hg
                    clear hK K hHeld
                    have hHeld := hHeld1
                    clear hHeld1
                    try simp only [Act.put, List.getElem_toArray, List.getElem_cons_succ, List.getElem_cons_zero, List.setIfInBounds_toArray, List.set_cons_zero, List.set_cons_succ]
                    refine wpAnyH_ready (rs := [9]) (by kernel_rfl) (by simp) ?_
                    refine AllReadyH.cons rfl (fun K hK => ?_) AllReadyH.nil
                    refine step_src rfl _ _ rfl rfl HR34.out.2 rfl (HSB.out V34 HR34.out.1.1) (by omega) HR34.out.1.2.1.lt ?_
                    intro v35 V35 ho hg
                    have HR35 := Lib.hid (show RX w X x v35 (((0 + 0) + 1) + 0) ((([] ++ (ts.take 0)) ++ [x]) ++ (ts.drop 0)) V35 from HR34.out.app (vs := (ts.drop 0)) ho hg)
                    refine hK.out _ _ (s_mk HR35.out.1) (fun hHeld1 => ?_)
                    clear ho hg
                    clear hK K hHeld
                    have hHeld := hHeld1
                    clear hHeld1
                    try simp only [Act.put, List.getElem_toArray, List.getElem_cons_succ, List.getElem_cons_zero, List.setIfInBounds_toArray, List.set_cons_zero, List.set_cons_succ]
                    refine' wpAnyH_take (i := 10) (v := ?vr10_10) rfl (by kernel_rfl) (by kernel_rfl) (by kernel_rfl) (fun _ _ _ h => h) (Or.inl ⟨by rfl, ?hyr10_10⟩) (by assumption) ?restr10_10
                    case hyr10_10 => (intro w hSw; (try dsimp only at hSw); go_simp; try (with_reducible rfl))
                    simp only [Act.put, List.getElem_toArray, List.getElem_cons_succ, List.getElem_cons_zero, List.setIfInBounds_toArray, List.set_cons_zero, List.set_cons_succ]
                    refine wpAnyH_done (by kernel_rfl) ?_ _
                    have HF := Lib.hid (show RX w X x v35 NR R V35 by have h := HR35.out; rw [HRE.out] at h; rw [HNE.out] at h; exact h)
                    obtain ⟨A3, c3, rfl⟩ := row_slice HF.out.2
                    first | refine hK0 _ _ (Met.intro (hJ0 _ _ ?_)) | refine Met.intro (hK0 _ _ (Met.intro (hJ0 _ _ ?_)))
                    (repeat apply Exists.intro)
                    exact ⟨⟨A3, c3, rfl, HF.out⟩, rfl⟩
                  · go_simp
                    refine hK.out _ _ (s_mk (HR31.out.1.alloc _)) (fun hHeld1 => ?_)
                    clear hK K hHeld
                    have hHeld := hHeld1
                    clear hHeld1
                    try simp only [Act.put, List.getElem_toArray, List.getElem_cons_succ, List.getElem_cons_zero, List.setIfInBounds_toArray, List.set_cons_zero, List.set_cons_succ]
                    obtain ⟨g36, HG36⟩ : ∃ G, Hid (V31.heap.size = G) := ⟨_, Lib.hid rfl⟩
                    obtain ⟨V36, HW36⟩ : ∃ W, Hid (V31.alloc (.cells #[.int .i64 x.day, .int .i64 x.tn] 42) = W) := ⟨_, Lib.hid rfl⟩
                    have HX36 := Lib.hid (show BX w X x V36 by rw [← HW36.out]; exact HR31.out.1.alloc _)
                    have HR36 := Lib.hid (show RX w X x (.slice (some ⟨g31, 0, none⟩) 0 0) 0 [] V36 by rw [← HW36.out]; exact HR31.out.alloc _)
                    have HY36 := Lib.hid (show Blk V36 g36 42 #[.int .i64 x.day, .int .i64 x.tn] ∧ g31 ≠ g36 by rw [← HW36.out, ← HG36.out]; exact ⟨Blk.new _ _ _, by have := (HR31.out.2.lt g31 rfl).2; omega⟩)
                    rw [HW36.out] at hHeld ⊢
                    try rw [HG36.out]
                    clear HW36 HG36
                    refine wpAnyH_ready (rs := [4]) (by kernel_rfl) (by simp) ?_
                    refine AllReadyH.cons rfl (fun K hK => ?_) AllReadyH.nil
                    refine step_src rfl _ _ rfl rfl HR36.out.2 rfl (HSK.out V36 HR36.out.1.1) (by omega) HR36.out.1.2.1.lt ?_
                    intro v37 V37 ho hg
                    have HR37 := Lib.hid (show RX w X x v37 (0 + 0) ([] ++ (ts.take 0)) V37 from HR36.out.app (vs := (ts.take 0)) ho hg)
                    have HY37 := Lib.hid (show Blk V37 g36 42 #[.int .i64 x.day, .int .i64 x.tn] from (HY36.out.1).grown hg (by intro e; have e := Option.some.inj e; exact HY36.out.2 e.symm))
                    refine hK.out _ _ (s_mk HR37.out.1) (fun hHeld1 => ?_)
                    clear ho hg
                    clear hK K hHeld
                    have hHeld := hHeld1
                    clear hHeld1
                    try simp only [Act.put, List.getElem_toArray, List.getElem_cons_succ, List.getElem_cons_zero, List.setIfInBounds_toArray, List.set_cons_zero, List.set_cons_succ]
                    refine wpAnyH_ready (rs := [7]) (by kernel_rfl) (by simp) ?_
                    refine AllReadyH.cons rfl (fun K hK => ?_) AllReadyH.nil
                    refine step_src rfl _ _ rfl rfl HR37.out.2 rfl (src_one (B := V37.heap.size) HY37.out rfl HY37.out.lt 1) (by omega) HR37.out.1.2.1.lt ?_
                    intro v38 V38 ho hg
                    have HR38 := Lib.hid (show RX w X x v38 ((0 + 0) + 1) (([] ++ (ts.take 0)) ++ [x]) V38 from HR37.out.app (vs := [x]) ho hg)
                    refine hK.out _ _ (s_mk HR38.out.1) (fun hHeld1 => ?_)
                    clear ho hg
                    clear hK K hHeld
                    have hHeld := hHeld1
                    clear hHeld1
                    try simp only [Act.put, List.getElem_toArray, List.getElem_cons_succ, List.getElem_cons_zero, List.setIfInBounds_toArray, List.set_cons_zero, List.set_cons_succ]
                    refine wpAnyH_ready (rs := [9]) (by kernel_rfl) (by simp) ?_
                    refine AllReadyH.cons rfl (fun K hK => ?_) AllReadyH.nil
                    refine step_src rfl _ _ rfl rfl HR38.out.2 rfl (HSB.out V38 HR38.out.1.1) (by omega) HR38.out.1.2.1.lt ?_
                    intro v39 V39 ho hg
                    have HR39 := Lib.hid (show RX w X x v39 (((0 + 0) + 1) + 0) ((([] ++ (ts.take 0)) ++ [x]) ++ (ts.drop 0)) V39 from HR38.out.app (vs := (ts.drop 0)) ho hg)
                    refine hK.out _ _ (s_mk HR39.out.1) (fun hHeld1 => ?_)
                    clear ho hg
                    clear hK K hHeld
                    have hHeld := hHeld1
                    clear hHeld1
                    try simp only [Act.put, List.getElem_toArray, List.getElem_cons_succ, List.getElem_cons_zero, List.setIfInBounds_toArray, List.set_cons_zero, List.set_cons_succ]
                    refine' wpAnyH_take (i := 10) (v := ?vr11_10) rfl (by kernel_rfl) (by kernel_rfl) (by kernel_rfl) (fun _ _ _ h => h) (Or.inl ⟨by rfl, ?hyr11_10⟩) (by assumption) ?restr11_10
                    case hyr11_10 => (intro w hSw; (try dsimp only at hSw); go_simp; try (with_reducible rfl))
                    simp only [Act.put, List.getElem_toArray, List.getElem_cons_succ, List.getElem_cons_zero, List.setIfInBounds_toArray, List.set_cons_zero, List.set_cons_succ]
                    refine wpAnyH_done (by kernel_rfl) ?_ _
                    have HF := Lib.hid (show RX w X x v39 NR R V39 by have h := HR39.out; rw [HRE.out] at h; rw [HNE.out] at h; exact h)
                    obtain ⟨A3, c3, rfl⟩ := row_slice HF.out.2
                    first | refine hK0 _ _ (Met.intro (hJ0 _ _ ?_)) | refine Met.intro (hK0 _ _ (Met.intro (hJ0 _ _ ?_)))
                    (repeat apply Exists.intro)
                    exact ⟨⟨A3, c3, rfl, HF.out⟩, rfl⟩
                · go_simp
                  refine hK.out _ _ (s_mk (HX30.out.alloc _)) (fun hHeld1 => ?_)
                  clear hK K hHeld
                  have hHeld := hHeld1
                  clear hHeld1
                  try simp only [Act.put, List.getElem_toArray, List.getElem_cons_succ, List.getElem_cons_zero, List.setIfInBounds_toArray, List.set_cons_zero, List.set_cons_succ]
                  obtain ⟨g40, HG40⟩ : ∃ G, Hid (V30.heap.size = G) := ⟨_, Lib.hid rfl⟩
                  obtain ⟨V40, HW40⟩ : ∃ W, Hid (V30.alloc (.cells #[.int .i64 x.day, .int .i64 x.tn] 42) = W) := ⟨_, Lib.hid rfl⟩
                  have HX40 := Lib.hid (show BX w X x V40 by rw [← HW40.out]; exact HX30.out.alloc _)
                  have HY40 := Lib.hid (show Blk V40 g40 42 #[.int .i64 x.day, .int .i64 x.tn] by rw [← HW40.out, ← HG40.out]; exact Blk.new _ _ _)
                  rw [HW40.out] at hHeld ⊢
                  try rw [HG40.out]
                  clear HW40 HG40
                  refine wpAnyH_ready (rs := [0]) (by kernel_rfl) (by simp) ?_
                  refine AllReadyH.cons rfl (fun K hK => ?_) AllReadyH.nil
                  go_simp
                  refine hK.out _ _ (s_mk (HX40.out.alloc _)) (fun hHeld1 => ?_)
                  clear hK K hHeld
                  have hHeld := hHeld1
                  clear hHeld1
                  try simp only [Act.put, List.getElem_toArray, List.getElem_cons_succ, List.getElem_cons_zero, List.setIfInBounds_toArray, List.set_cons_zero, List.set_cons_succ]
                  obtain ⟨g41, HG41⟩ : ∃ G, Hid (V40.heap.size = G) := ⟨_, Lib.hid rfl⟩
                  obtain ⟨V41, HW41⟩ : ∃ W, Hid (V40.alloc (.cells #[] 42) = W) := ⟨_, Lib.hid rfl⟩
                  have HR41 := Lib.hid (show RX w X x (.slice (some ⟨g41, 0, none⟩) 0 0) 0 [] V41 by rw [← HW41.out, ← HG41.out]; exact rx_new HX40.out)
                  have HY41 := Lib.hid (show Blk V41 g40 42 #[.int .i64 x.day, .int .i64 x.tn] ∧ g41 ≠ g40 by rw [← HW41.out, ← HG41.out]; have h := HY40.out; exact ⟨h.alloc _, by have := h.lt; omega⟩)
                  rw [HW41.out] at hHeld ⊢
                  try rw [HG41.out]
                  clear HW41 HG41
                  refine wpAnyH_ready (rs := [4]) (by kernel_rfl) (by simp) ?_
                  refine AllReadyH.cons rfl (fun K hK => ?_) AllReadyH.nil
                  refine step_src rfl _ _ rfl rfl HR41.out.2 rfl (HSK.out V41 HR41.out.1.1) (by omega) HR41.out.1.2.1.lt ?_
                  intro v42 V42 ho hg
                  have HR42 := Lib.hid (show RX w X x v42 (0 + 0) ([] ++ (ts.take 0)) V42 from HR41.out.app (vs := (ts.take 0)) ho hg)
                  have HY42 := Lib.hid (show Blk V42 g40 42 #[.int .i64 x.day, .int .i64 x.tn] from (HY41.out.1).grown hg (by intro e; have e := Option.some.inj e; exact HY41.out.2 e.symm))
                  refine hK.out _ _ (s_mk HR42.out.1) (fun hHeld1 => ?_)
                  clear ho hg
                  clear hK K hHeld
                  have hHeld := hHeld1
                  clear hHeld1
                  try simp only [Act.put, List.getElem_toArray, List.getElem_cons_succ, List.getElem_cons_zero, List.setIfInBounds_toArray, List.set_cons_zero, List.set_cons_succ]
                  refine wpAnyH_ready (rs := [7]) (by kernel_rfl) (by simp) ?_
                  refine AllReadyH.cons rfl (fun K hK => ?_) AllReadyH.nil
                  refine step_src rfl _ _ rfl rfl HR42.out.2 rfl (src_one (B := V42.heap.size) HY42.out rfl HY42.out.lt 1) (by omega) HR42.out.1.2.1.lt ?_
                  intro v43 V43 ho hg
                  have HR43 := Lib.hid (show RX w X x v43 ((0 + 0) + 1) (([] ++ (ts.take 0)) ++ [x]) V43 from HR42.out.app (vs := [x]) ho hg)
                  refine hK.out _ _ (s_mk HR43.out.1) (fun hHeld1 => ?_)
                  clear ho hg
                  clear hK K hHeld
                  have hHeld := hHeld1
                  clear hHeld1
                  try simp only [Act.put, List.getElem_toArray, List.getElem_cons_succ, List.getElem_cons_zero, List.setIfInBounds_toArray, List.set_cons_zero, List.set_cons_succ]
                  refine wpAnyH_ready (rs := [9]) (by kernel_rfl) (by simp) ?_
                  refine AllReadyH.cons rfl (fun K hK => ?_) AllReadyH.nil
                  refine step_src rfl _ _ rfl rfl HR43.out.2 rfl (HSB.out V43 HR43.out.1.1) (by omega) HR43.out.1.2.1.lt ?_
                  intro v44 V44 ho hg
                  have HR44 := Lib.hid (show RX w X x v44 (((0 + 0) + 1) + 0) ((([] ++ (ts.take 0)) ++ [x]) ++ (ts.drop 0)) V44 from HR43.out.app (vs := (ts.drop 0)) ho hg)
                  refine hK.out _ _ (s_mk HR44.out.1) (fun hHeld1 => ?_)
                  clear ho hg
                  clear hK K hHeld
                  have hHeld := hHeld1
                  clear hHeld1
                  try simp only [Act.put, List.getElem_toArray, List.getElem_cons_succ, List.getElem_cons_zero, List.setIfInBounds_toArray, List.set_cons_zero, List.set_cons_succ]
                  refine' wpAnyH_take (i := 10) (v := ?vr12_10) rfl (by kernel_rfl) (by kernel_rfl) (by kernel_rfl) (fun _ _ _ h => h) (Or.inl ⟨by rfl, ?hyr12_10⟩) (by assumption) ?restr12_10
                  case hyr12_10 => (intro w hSw; (try dsimp only at hSw); go_simp; try (with_reducible rfl))
                  simp only [Act.put, List.getElem_toArray, List.getElem_cons_succ, List.getElem_cons_zero, List.setIfInBounds_toArray, List.set_cons_zero, List.set_cons_succ]
                  refine wpAnyH_done (by kernel_rfl) ?_ _
                  have HF := Lib.hid (show RX w X x v44 NR R V44 by have h := HR44.out; rw [HRE.out] at h; rw [HNE.out] at h; exact h)
                  obtain ⟨A3, c3, rfl⟩ := row_slice HF.out.2
                  first | refine hK0 _ _ (Met.intro (hJ0 _ _ ?_)) | refine Met.intro (hK0 _ _ (Met.intro (hJ0 _ _ ?_)))
                  (repeat apply Exists.intro)
                  exact ⟨⟨A3, c3, rfl, HF.out⟩, rfl⟩
              case rest =>
                obtain ⟨A3, c3, rfl, hR⟩ := hcut
                have HR := Lib.hid hR
                clear hR
                go_wp2_with fail
                refine (good_is A3 NR c3 R G2 HG2 _ (by omega) (Lib.hid (own_Dp HNR.out HR.out.2))).mono ?_
                rintro e w8 ⟨rfl, b8⟩
                have HR8 := Lib.hid (HR.out.step b8)
                clear b8 HR
                cases G2
                · have HNO := Lib.hid (HFO.out rfl)
                  go_wp2_with fail
                  go_ret2
                  exact ⟨_, by rw [HNO.out]; rfl, by rw [apV_no HNO.out]; exact made1 w w8 HR8.out.1.1.size 42 2, HR8.out.1.1.alloc HR8.out.1.1.size _⟩
                · have HYE := Lib.hid (HFT.out rfl)
                  go_wp2_with fail
                  go_ret2
                  exact ⟨_, by rw [HYE.out]; rfl, by rw [apV_yes HYE.out, HRR.out, HNR.out]; exact own_low (by have := HR8.out.1.2.2; omega) HR8.out.2, HR8.out.1.1⟩
end Go.Proofs.Ytiimegmaokfpgaa.va
