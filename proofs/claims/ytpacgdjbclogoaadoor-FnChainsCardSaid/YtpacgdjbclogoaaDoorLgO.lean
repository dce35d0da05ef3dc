/-
  Parts of lists of legs: what the program answers at them.
  Conditions: the variable holds the table of the sines; else none but those that a theorem names.
-/
import Derived.Test.YtpacgdjbclogoaaDoorLgN
import Derived.Deep.DeepCutAuto
import Derived.Deep.RegionWith
import Derived.Deep.QuietTactic
import Derived.BigQuiet
namespace Go.Proofs.YtpacgdjbclogoaaDoor.lgo
open Go.RowKit
open reads base ty win lg lgi
set_option linter.unusedVariables false
set_option linter.unusedSimpArgs false

/-- a list of legs in memory, from some cell of a block on -/
def LgO (w : World) (B : Nat) (A : Option Addr) (n : Nat) (ts : List Lg) : Prop :=
  ts.length = n ∧ ∀ k t, ts[k]? = some t → ∃ g o, A = some ⟨g, o, none⟩ ∧ g < B ∧ w.cell? ⟨g, o + k * 5, none⟩ = some (.int .i64 t.frm) ∧ w.cell? ⟨g, o + k * 5 + 1, none⟩ = some (.int .i64 t.to_) ∧ w.cell? ⟨g, o + k * 5 + 2, none⟩ = some (.int .i64 t.tape) ∧ w.cell? ⟨g, o + k * 5 + 3, none⟩ = some (.int .i64 t.comp) ∧ w.cell? ⟨g, o + k * 5 + 4, none⟩ = some (.int .i64 t.slope)
theorem LgO.below {w w' : World} {B : Nat} {A : Option Addr} {n : Nat} {ts : List Lg} (h : LgO w B A n ts) (hb : Below B w w') : LgO w' B A n ts :=
  ⟨h.1, fun k t ht => by
    obtain ⟨g, o, e, hg, h0, h1, h2, h3, h4⟩ := h.2 k t ht
    exact ⟨g, o, e, hg, (hb.cell (p := ⟨g, o + k * 5, none⟩) hg).trans h0, (hb.cell (p := ⟨g, o + k * 5 + 1, none⟩) hg).trans h1, (hb.cell (p := ⟨g, o + k * 5 + 2, none⟩) hg).trans h2, (hb.cell (p := ⟨g, o + k * 5 + 3, none⟩) hg).trans h3, (hb.cell (p := ⟨g, o + k * 5 + 4, none⟩) hg).trans h4⟩⟩
theorem LgO.more {w : World} {B B' : Nat} {A : Option Addr} {n : Nat} {ts : List Lg} (h : LgO w B A n ts) (hB : B ≤ B') : LgO w B' A n ts :=
  ⟨h.1, fun k t ht => by
    obtain ⟨g, o, e, hg, h0⟩ := h.2 k t ht
    exact ⟨g, o, e, by omega, h0⟩⟩
theorem LgO.step {w w' : World} {A : Option Addr} {n : Nat} {ts : List Lg} (h : LgO w w.heap.size A n ts) (hb : Below w.heap.size w w') : LgO w' w'.heap.size A n ts := (h.below hb).more hb.size
theorem LgO.alloc {w : World} {A : Option Addr} {n : Nat} {ts : List Lg} (h : LgO w w.heap.size A n ts) (o : Obj) : LgO (w.alloc o) (w.alloc o).heap.size A n ts := h.step ((Below.refl _ _).alloc (Nat.le_refl _) o)
/-- the first part of a list -/
theorem LgO.take {w : World} {B : Nat} {A : Option Addr} {n : Nat} {ts : List Lg} (h : LgAt w B A n ts) (k : Nat) (hk : k ≤ n) : LgO w B A k (ts.take k) :=
  ⟨by rw [List.length_take, h.1]; omega, fun i t ht => by
    have hi : i < k := by have := (List.getElem?_eq_some_iff.1 ht).1; rw [List.length_take] at this; omega
    rw [List.getElem?_take_of_lt hi] at ht
    obtain ⟨g, e, hg, h0, h1, h2, h3, h4⟩ := h.2 i t ht
    exact ⟨g, 0, e, hg, by simpa using h0, by simpa using h1, by simpa using h2, by simpa using h3, by simpa using h4⟩⟩
/-- the rest of a list -/
theorem LgO.drop {w : World} {B : Nat} {g c : Nat} {n : Nat} {ts : List Lg} (h : LgAt w B (some ⟨g, 0, none⟩) n ts) (k : Nat) (hk : k < n) : LgO w B (some ⟨g, k * 5, none⟩) (n - k) (ts.drop k) :=
  ⟨by rw [List.length_drop, h.1], fun i t ht => by
    rw [List.getElem?_drop] at ht
    obtain ⟨g', e, hg, h0, h1, h2, h3, h4⟩ := h.2 (k + i) t ht
    obtain rfl : g = g' := by injection e with e; injection e
    have e5 : k * 5 + i * 5 = (k + i) * 5 := by omega
    exact ⟨g, k * 5, rfl, hg, by rw [e5]; exact h0, by rw [e5]; exact h1, by rw [e5]; exact h2, by rw [e5]; exact h3, by rw [e5]; exact h4⟩⟩
set_option maxHeartbeats 4000000 in
set_option maxRecDepth 100000 in
theorem areLegsO_any (A : Option Addr) (n cap : Nat) (ts : List Lg) (w : World) (hn : n ≤ 2000000) (hts : Hid (LgO w w.heap.size A n ts)) :
    Calls Tryd.prog 37 #[.slice A n cap] w (BPost (goodLg ts) w) := by
  have hL : Hid (ts.length = n) := Lib.hid hts.out.1
  by_cases h8 : 12 < n
  · have HF := Lib.hid (show goodLg ts = false by
      cases q : goodLg ts
      · rfl
      · have := goodLg_len q; rw [hL.out] at this; omega)
    have h8d : decide ((12 : Int) < (n : Int)) = true := by simp; omega
    go_enter Tryd.func37, Tryd.ntmps37
    go_wp2_with fail
    go_ret
    exact ⟨ret_bool HF.out.symm, Below.refl _ _⟩
  have h8d : decide ((12 : Int) < (n : Int)) = false := by simp; omega
  have hn8 : n ≤ 12 := by omega
  clear h8
  go_enter Tryd.func37, Tryd.ntmps37
  go_wp2_with fail
  go_loopw [10] (fun i wr => ∃ k : Nat, k ≤ n ∧ i = .int .i64 k ∧ Hid ((ts.take k).all okLg = true) ∧ Below w.heap.size w wr) (fun i _ => n - (intOf i).toNat)
  case atStart => exact ⟨0, Nat.zero_le _, rfl, Lib.hid (by simp), Below.refl _ _⟩
  case round =>
    obtain ⟨k, hk, rfl, HI, hB⟩ := hrel
    have HB := Lib.hid hB
    clear hB
    by_cases hlt : k < n
    · obtain ⟨t, htk⟩ := at_lt hL.out hlt
      obtain ⟨g, o, rfl, hg, h0, h1, h2, h3, h4⟩ := (hts.out.below HB.out).2 k t htk
      have HK := Lib.hid htk
      clear htk
      have hki : (k : Int) < (n : Int) := by omega
      have hk0 : 0 ≤ (k : Int) := by omega
      have hkd : decide (k < n) = true := by simpa using hlt
      have HBA := Lib.hid (HB.out.alloc HB.out.size (.cells #[.int .i64 t.frm, .int .i64 t.to_, .int .i64 t.tape, .int .i64 t.comp, .int .i64 t.slope] 28))
      cases ot : okLg t
      · have OT := Lib.hid ot
        have HF := Lib.hid (show goodLg ts = false by unfold goodLg; rw [all_no HK.out ot]; rfl)
        clear ot
        go_wp2_with fail
        refine (isLeg_is t false OT _).mono ?_
        rintro e w1 ⟨rfl, b1⟩
        have HS := Lib.hid (HBA.out.trans (b1.mono HBA.out.size))
        clear b1
        go_wp2_with fail
        go_ret
        exact ⟨ret_bool HF.out.symm, HS.out⟩
      · have OT := Lib.hid ot
        have HN := Lib.hid (all_take HK.out HI.out ot)
        clear ot
        go_wp2_with fail
        refine (isLeg_is t true OT _).mono ?_
        rintro e w1 ⟨rfl, b1⟩
        have HS := Lib.hid (HBA.out.trans (b1.mono HBA.out.size))
        clear b1
        go_wp2_with fail
        go_roundw
        case rel => exact ⟨k + 1, by omega, by go_num, HN, HS.out⟩
        case measure => simp [intOf]; omega
    · have hkd : decide (k < n) = false := by simpa using hlt
      obtain rfl : k = n := by omega
      have HF := Lib.hid (show goodLg ts = true by unfold goodLg; rw [hL.out, show ts.all okLg = true by have := HI.out; rwa [List.take_of_length_le (by rw [hL.out]; omega)] at this]; simpa using hn8)
      clear hlt
      go_wp2_with fail
      go_ret
      exact ⟨ret_bool HF.out.symm, HB.out⟩
theorem areLegsO_is (A : Option Addr) (n cap : Nat) (ts : List Lg) (t : Bool) (w : World) (hn : n ≤ 2000000) (hts : Hid (LgO w w.heap.size A n ts)) (h : Hid (goodLg ts = t)) :
    Calls Tryd.prog 37 #[.slice A n cap] w (BPost t w) := by rw [← h.out]; exact areLegsO_any A n cap ts w hn hts
set_option maxHeartbeats 4000000 in
set_option maxRecDepth 100000 in
theorem chainO_impl (A : Option Addr) (n cap : Nat) (ts : List Lg) (w : World) (hn : n ≤ 2000000) (hts : Hid (LgO w w.heap.size A n ts)) (hT : Hid (Tab w)) :
    Calls Tryd.prog 15 #[.slice A n cap] w (APost (ansChain ts) w) := by
  have hL : Hid (ts.length = n) := Lib.hid hts.out.1
  have HA0 := Lib.hid (hts.out.alloc (.cells #[.int .i64 0, .int .i64 0, .int .i64 0] 25))
  have HB0 := Lib.hid ((Below.refl w.heap.size w).alloc (Nat.le_refl _) (.cells #[.int .i64 0, .int .i64 0, .int .i64 0] 25))
  cases hg : goodLg ts
  · have HA := Lib.hid (show ansChain ts = .tuple #[.agg #[.int .i64 0, .int .i64 0, .int .i64 0], .bool false] by unfold ansChain chOk; rw [hg]; rfl)
    have HG := Lib.hid hg
    clear hg
    rw [HA.out]
    go_enter Tryd.func15, Tryd.ntmps15
    go_wp2_with fail
    refine (areLegsO_is A n cap ts false _ hn HA0 HG).mono ?_
    rintro e w1 ⟨rfl, b1⟩
    have HB := Lib.hid (HB0.out.trans (b1.mono HB0.out.size))
    obtain ⟨hc1, hf1⟩ := bcell b1
    have hz : w.heap.size < w1.heap.size := by have := b1.size; simp at this; omega
    clear b1
    go_wp2_with fail
    refine bodyPost_ret (v := .tuple #[.agg #[.int .i64 0, .int .i64 0, .int .i64 0], .bool false]) (by simp [results, Tryd.results15, go_sem, *]) rfl ⟨rfl, ?_⟩
    exact ((HB.out.setCell (by simp) _).setCell (by simp) _).setCell (by simp) _
  · have HG := Lib.hid hg
    have hn12 : n ≤ 12 := by rw [← hL.out]; exact goodLg_len hg
    clear hg
    go_enter Tryd.func15, Tryd.ntmps15
    go_wp2_with fail
    refine (areLegsO_is A n cap ts true _ hn HA0 HG).mono ?_
    rintro e w1 ⟨rfl, b1⟩
    obtain ⟨g, HGG⟩ : ∃ g, Hid (w1.heap.size = g) := ⟨_, Lib.hid rfl⟩
    have HS1 := Lib.hid (show CI w g ⟨0, 0, 0⟩ (w1.alloc (.cells #[.int .i64 0, .int .i64 0, .int .i64 0] 25)) by
      rw [← HGG.out]
      have z := b1.size
      refine ⟨((Blk.new w _ _).below b1 (by simp)).alloc _, Blk.new w1 _ _, by simp at z; omega, ?_⟩
      exact (HB0.out.trans (b1.mono HB0.out.size)).alloc (by simp at z; omega) _)
    clear b1
    go_wp2_with fail
    rw [HGG.out]
    go_loopw [14] (fun i wr => ∃ (k : Nat) (s : Sf), k ≤ n ∧ i = .int .i64 k ∧ Hid (ssum ts k = s) ∧ Hid (lkAll ts k = true) ∧ CI w g s wr) (fun i _ => n - (intOf i).toNat)
    case atStart => exact ⟨0, ⟨0, 0, 0⟩, Nat.zero_le _, rfl, Lib.hid rfl, Lib.hid rfl, HS1.out⟩
    case round =>
      obtain ⟨k, s, hk, rfl, HV, HI, hF⟩ := hrel
      have HF := Lib.hid hF
      clear hF HS1
      by_cases hlt : k < n
      · obtain ⟨t, htk⟩ := at_lt hL.out hlt
        obtain ⟨gl, ol, rfl, hgl, h0, h1, h2, h3, h4⟩ := (hts.out.below HF.out.2.2.2).2 k t htk
        have sb := ssum_bd (goodLg_all HG.out) k
        rw [HV.out] at sb
        have tb := shf_bd (goodLg_at HG.out htk)
        obtain ⟨sh, HSH⟩ : ∃ sh, Hid (shf t = sh) := ⟨_, Lib.hid rfl⟩
        rw [HSH.out] at tb
        obtain ⟨nx, hnx⟩ : ∃ nx, add3 s sh = nx := ⟨_, rfl⟩
        have HNX := Lib.hid hnx
        have HSN := Lib.hid (show ssum ts (k + 1) = nx by rw [ssum_succ htk, HV.out, HSH.out, hnx])
        have HTB := Lib.hid tb
        have HSB := Lib.hid sb
        have HOT := Lib.hid (goodLg_at HG.out htk)
        have HK := Lib.hid htk
        clear htk tb sb hnx
        have hki : (k : Int) < (n : Int) := by omega
        have hk0 : 0 ≤ (k : Int) := by omega
        have hkd : decide (k < n) = true := by simpa using hlt
        obtain ⟨lk, hlk⟩ : ∃ lk, lkAt ts k = lk := ⟨_, rfl⟩
        have HLK := Lib.hid hlk
        obtain ⟨X, HX⟩ : ∃ X, Hid (wr.heap.size = X) := ⟨_, Lib.hid rfl⟩
        obtain ⟨W1, HW1⟩ : ∃ W1, Hid (wr.alloc (.cells #[.int .i64 t.frm, .int .i64 t.to_, .int .i64 t.tape, .int .i64 t.comp, .int .i64 t.slope] 28) = W1) := ⟨_, Lib.hid rfl⟩
        have HF1 := Lib.hid (show CI w g s W1 by rw [← HW1.out]; exact HF.out.step ((Below.refl _ _).alloc (Nat.le_refl _) _))
        have HBX := Lib.hid (show Blk W1 X 28 #[.int .i64 t.frm, .int .i64 t.to_, .int .i64 t.tape, .int .i64 t.comp, .int .i64 t.slope] by rw [← HW1.out, ← HX.out]; exact Blk.new _ _ _)
        go_wp2_with fail
        rw [HW1.out, HX.out]
        clear HW1 HF h0 h1 h2 h3 h4
        go_cut [31] (fun v wx => v = .bool (!lk) ∧ CI w g s wx ∧ Blk wx X 28 #[.int .i64 t.frm, .int .i64 t.to_, .int .i64 t.tape, .int .i64 t.comp, .int .i64 t.slope])
        case first =>
          as_aux_lemma =>
            obtain ⟨x0, x1, x2, x3, x4, xl⟩ := box_cs HBX.out
            by_cases k0 : k = 0
            · subst k0
              obtain rfl : lk = true := by rw [← hlk]; rfl
              clear hlk HLK
              have hgt : decide ((0 : Int) < ((0 : Nat) : Int)) = false := by simp
              have hgt2 : decide ((0 : Int) < 0) = false := by simp
              go_quiet (fail)
              go_wp2_with fail
              go_meet
              case rel => exact ⟨rfl, HF1.out.step (drewN_below _ _), HBX.out.drewN _⟩
            · obtain ⟨j, hkj⟩ : ∃ j, k = j + 1 := ⟨k - 1, by omega⟩
              obtain ⟨p, hpj⟩ : ∃ p, ts[j]? = some p := ⟨_, List.getElem?_eq_getElem (by rw [hL.out]; omega)⟩
              obtain ⟨g', o', hgg, -, p0, p1, -, -, -⟩ := (hts.out.below HF1.out.2.2.2).2 j p hpj
              obtain ⟨rfl, rfl⟩ : gl = g' ∧ ol = o' := by injection hgg with hgg; injection hgg with e1 e2; exact ⟨e1, e2⟩
              obtain rfl : lk = (p.to_ == t.frm) := by rw [← hlk]; exact lkAt_succ hkj HK.out hpj
              clear hpj hgg hlk HLK
              have hji : (j : Int) < (n : Int) := by omega
              have hj0 : 0 ≤ (j : Int) := by omega
              have hgt : decide ((0 : Int) < (k : Int)) = true := by simp; omega
              have hgt2 : decide (0 < k) = true := by simp; omega
              have hsub : IntKind.i64.wrap ((k : Int) - 1) = (j : Int) := by rw [IntWalk.i64_in _ (by omega)]; omega
              clear hkj k0
              go_quiet (fail)
              go_wp2_with fail
              go_meet
              case rel => exact ⟨by first | rfl | simp [bne], HF1.out.step (drewN_below _ _), HBX.out.drewN _⟩
        case rest =>
          as_aux_lemma =>
            obtain ⟨rfl, hC, hTT⟩ := hcut
            have HC := Lib.hid hC
            have HTT := Lib.hid hTT
            clear hC hTT HF1 HBX hlk
            cases lk
            · have HA := Lib.hid (show ansChain ts = .tuple #[.agg #[.int .i64 0, .int .i64 0, .int .i64 0], .bool false] by unfold ansChain chOk; rw [lkAll_no ts k HLK.out _ (by rw [hL.out]; exact hlt)]; simp)
              obtain ⟨z0, z1, z2⟩ := HC.out.zs
              obtain ⟨f0, f1, f2, f3⟩ := HC.out.gs
              go_wp2_with fail
              refine bodyPost_ret (v := .tuple #[.agg #[.int .i64 0, .int .i64 0, .int .i64 0], .bool false]) (by simp [results, Tryd.results15, go_sem, *]) rfl ⟨by rw [HA.out], ?_⟩
              exact ((HC.out.2.2.2.setCell (by simp) _).setCell (by simp) _).setCell (by simp) _
            · have HN := Lib.hid (show lkAll ts (k + 1) = true by rw [lkAll, HI.out, HLK.out]; rfl)
              obtain ⟨x0, x1, x2, x3, x4, xl⟩ := box_cs HTT.out
              go_wp2_with fail
              have hsz := HC.out.fs.2.2.2
              obtain ⟨s0, s1, s2⟩ := HC.out.cs
              go_region_with (first | (go_at_call 34; refine (along_is t sh HSH _ HOT (Lib.hid (hT.out.below (HC.out.step (drewN_below _ 1)).2.2.2))).mono ?_; rintro e w2 ⟨rfl, b⟩; have HC2 := Lib.hid ((HC.out.step (drewN_below _ 1)).step b); clear b s0 s1 s2; obtain ⟨s0, s1, s2⟩ := HC2.out.cs) | (go_at_call 38; refine (sum_is s sh nx HNX (500 * (k : Int)) _ (by omega) (by omega) HSB.out.1 HSB.out.2.1 HSB.out.2.2 HTB.out.1 HTB.out.2.1 HTB.out.2.2).mono ?_; rintro e w3 ⟨rfl, b⟩; have HC3 := Lib.hid (HC2.out.step b); clear b s0 s1 s2; obtain ⟨s0, s1, s2⟩ := HC3.out.cs; obtain ⟨f0, f1, f2, f3⟩ := HC3.out.fs))
              all_goals
                go_wp2_with fail
                go_roundw
                case rel => exact ⟨k + 1, nx, by omega, by go_num, HSN, HN, HC3.out.put nx⟩
                case measure => simp [intOf]; omega
      · have hkd : decide (k < n) = false := by simpa using hlt
        obtain rfl : k = n := by omega
        have HA := Lib.hid (show ansChain ts = .tuple #[.agg #[.int .i64 s.east, .int .i64 s.north, .int .i64 s.up], .bool true] by unfold ansChain chOk; rw [HG.out, hL.out, HI.out, HV.out]; rfl)
        clear hlt
        obtain ⟨s0, s1, s2⟩ := HF.out.cs
        obtain ⟨z0, z1, z2⟩ := HF.out.zs
        obtain ⟨f0, f1, f2, f3⟩ := HF.out.gs
        go_wp2_with fail
        refine bodyPost_ret (v := .tuple #[.agg #[.int .i64 s.east, .int .i64 s.north, .int .i64 s.up], .bool true]) (by simp [results, Tryd.results15, go_sem, *]) rfl ⟨by rw [HA.out], ?_⟩
        exact ((HF.out.2.2.2.setCell (by simp) _).setCell (by simp) _).setCell (by simp) _
end Go.Proofs.YtpacgdjbclogoaaDoor.lgo
