/-
  The drawn chains of legs.
  Conditions: the code has at most 65536 bytes.
-/
import Derived.Test.YtpacgdjbclogoaaDoorDrB
import Derived.Deep.DeepCutAuto
import Derived.Laws.OwnMore
import Derived.OwnWalk
import Derived.Deep.AppendLies
namespace Go.Proofs.YtpacgdjbclogoaaDoor.drl
open Go.RowKit
open reads base curs curd cure ty
set_option linter.unusedVariables false
set_option linter.unusedSimpArgs false

theorem flatLg_set (t : Lg) : ∀ (ts : List Lg) (i : Nat), i < ts.length → ((((((flatLg ts).set (i * 5) (.int .i64 t.frm)).set (i * 5 + 1) (.int .i64 t.to_)).set (i * 5 + 2) (.int .i64 t.tape)).set (i * 5 + 3) (.int .i64 t.comp)).set (i * 5 + 4) (.int .i64 t.slope)) = flatLg (ts.set i t)
  | [], i, h => by simp at h
  | d :: ts, 0, h => by simp [flatLg]
  | d :: ts, i + 1, h => by
    have ih := flatLg_set t ts i (by simpa using h)
    have e : flatLg (d :: ts) = .int .i64 d.frm :: .int .i64 d.to_ :: .int .i64 d.tape :: .int .i64 d.comp :: .int .i64 d.slope :: flatLg ts := rfl
    have e2 : flatLg ((d :: ts).set (i + 1) t) = .int .i64 d.frm :: .int .i64 d.to_ :: .int .i64 d.tape :: .int .i64 d.comp :: .int .i64 d.slope :: flatLg (ts.set i t) := rfl
    rw [e2, ← ih, e, show (i + 1) * 5 = i * 5 + 1 + 1 + 1 + 1 + 1 by omega, show i * 5 + 1 + 1 + 1 + 1 + 1 + 1 = (i * 5 + 1) + 1 + 1 + 1 + 1 + 1 by omega, show i * 5 + 1 + 1 + 1 + 1 + 1 + 2 = (i * 5 + 2) + 1 + 1 + 1 + 1 + 1 by omega, show i * 5 + 1 + 1 + 1 + 1 + 1 + 3 = (i * 5 + 3) + 1 + 1 + 1 + 1 + 1 by omega, show i * 5 + 1 + 1 + 1 + 1 + 1 + 4 = (i * 5 + 4) + 1 + 1 + 1 + 1 + 1 by omega]
    simp only [List.set_cons_succ]
section
variable {w u : World} {B b k : Nat} {A : Option Addr} {n cap : Nat} {zs : List UInt8} {ts : List Lg} {g L c i : Nat}
theorem GS.put (h : GS w B b k A n cap zs (.slice (some ⟨g, 0, none⟩) L c) ts u) (hL : ts.length = L) (hi : i < L) {t : Lg} (hok : okD t) : GS w B b k A n cap zs (.slice (some ⟨g, 0, none⟩) L c) (ts.set i t) (((((u.setCell ⟨g, i * 5, none⟩ (.int .i64 t.frm)).setCell ⟨g, i * 5 + 1, none⟩ (.int .i64 t.to_)).setCell ⟨g, i * 5 + 2, none⟩ (.int .i64 t.tape)).setCell ⟨g, i * 5 + 3, none⟩ (.int .i64 t.comp)).setCell ⟨g, i * 5 + 4, none⟩ (.int .i64 t.slope)) := by
  obtain ⟨h1, h2, h3, h4, h5, h6⟩ := h
  rw [hL] at h3
  have hg := (h3.lt g rfl).1
  have hne : b ≠ g := by omega
  have hB : B ≤ g := by omega
  have hw : w.heap.size ≤ g := hg
  refine ⟨(cur_set (cur_set (cur_set (cur_set (cur_set h1 hne hB _) hne hB _) hne hB _) hne hB _) hne hB _), (cure.grown_set (cure.grown_set (cure.grown_set (cure.grown_set (cure.grown_set h2 hw _) hw _) hw _) hw _) hw _), ?_, ?_, h5, h6⟩
  · rw [List.length_set, hL, ← flatLg_set t ts i (by omega)]
    exact (((((h3.stored (i * 5) (.int .i64 t.frm)).1.stored (i * 5 + 1) (.int .i64 t.to_)).1.stored (i * 5 + 2) (.int .i64 t.tape)).1.stored (i * 5 + 3) (.int .i64 t.comp)).1.stored (i * 5 + 4) (.int .i64 t.slope)).1
  · intro x hx
    rcases List.mem_or_eq_of_mem_set hx with q | q
    · exact h4 x q
    · rw [q]; exact hok
theorem GS.at_ {v : Value} (h : GS w B b k A n cap zs v ts u) : ∃ A' c, v = .slice A' ts.length c ∧ LgAt u u.heap.size A' ts.length ts := by
  obtain ⟨A', c, rfl⟩ := row_slice h.2.2.1
  exact ⟨A', c, rfl, own_Lg rfl h.2.2.1⟩
end
set_option maxHeartbeats 4000000 in
set_option maxRecDepth 100000 in
theorem chain_draw (A : Option Addr) (n cap : Nat) (zs : List UInt8) (w : World) (h : Hid (curs.Code w A n zs)) : Calls Tryd.prog 18 #[.slice A n cap] w (DLPo w) := by
  have HC0 := Lib.hid (cur_new cap h.out)
  have HLW := Lib.hid (show ∀ u, (w.alloc (.cells #[.slice A n cap, .int .i64 0, .int .u64 0] 64)).grownBy u (some w.heap.size) → Below w.heap.size w u from fun u hu => low hu)
  go_enter Tryd.func18, Tryd.ntmps18
  go_wp2_with fail
  refine (legs_any w.heap.size w.heap.size 0 A n cap zs _ (by omega) HC0).mono ?_
  rintro e w1 ⟨v, ts, rfl, hl, hG⟩
  obtain ⟨A', c, hv, -⟩ := hG.at_
  subst hv
  obtain ⟨W0, HW0⟩ : ∃ W0, Hid (w.alloc (.cells #[.slice A n cap, .int .i64 0, .int .u64 0] 64) = W0) := ⟨_, Lib.hid rfl⟩
  have HWS := Lib.hid (show W0.heap.size = w.heap.size + 1 by rw [← HW0.out]; simp)
  rw [HW0.out] at hG HLW
  obtain ⟨L, hL⟩ : ∃ L, ts.length = L := ⟨_, rfl⟩
  rw [hL] at hG hl ⊢
  have HG := Lib.hid hG
  have HL0 := Lib.hid hL
  clear hG hL HC0 h HW0
  go_wp2_with fail
  go_loopw [5] (fun i wr => ∃ (p : Nat) (us : List Lg), 1 ≤ p ∧ p ≤ 14 ∧ i = .int .i64 p ∧ Hid (us.length = L) ∧ GS W0 w.heap.size w.heap.size (200 + p) A n cap zs (.slice A' L c) us wr) (fun i _ => 14 - (intOf i).toNat)
  case atStart => exact ⟨1, ts, Nat.le_refl _, by decide, rfl, HL0, HG.out.more (by omega)⟩
  case round =>
    obtain ⟨p, us, hp1, hp14, rfl, HL, hS⟩ := hrel
    have HS := Lib.hid hS
    clear hS HG
    by_cases hlt : p < L
    · have hlt0 : 0 < L := by omega
      obtain ⟨g, cap', hv, hgb, -⟩ := (HS.out.2.2.1).form (by rw [HL.out]; omega)
      injection hv with hA hn2 hc2
      subst hA
      clear hc2 hn2
      have hd1 : decide ((p : Int) < (L : Int)) = true := by simp; omega
      have hd2 : decide (p < L) = true := by simpa using hlt
      go_wp2_with fail
      refine (one_any w.heap.size w.heap.size (200 + p) A n cap zs _ 12 (by omega) HS.out.1 (by decide) (by decide)).mono ?_
      rintro e w2 ⟨t1, rfl, hC, hg⟩
      have HS2 := Lib.hid (HS.out.step hC hg)
      clear hC hg HS
      cases t1
      · obtain ⟨t, htk⟩ := at_lt HL.out hlt
        obtain ⟨j, hpj⟩ : ∃ j, p = j + 1 := ⟨p - 1, by omega⟩
        obtain ⟨pr, hpr⟩ := at_lt (k := j) HL.out (by omega)
        have hLg := own_Lg HL.out (by have := HS2.out.2.2.1; rw [HL.out] at this; exact this)
        obtain ⟨g1, e1, hgl, h0, h1, h2, h3, h4⟩ := hLg.2 p t htk
        obtain rfl : g = g1 := by injection e1 with e1; injection e1
        obtain ⟨g2, e2, -, -, q1, -, -, -⟩ := hLg.2 j pr hpr
        obtain rfl : g = g2 := by injection e2 with e2; injection e2
        have HOT := Lib.hid (HS2.out.2.2.2.1 t (List.mem_of_getElem? htk))
        have HOP := Lib.hid (HS2.out.2.2.2.1 pr (List.mem_of_getElem? hpr))
        clear e1 e2 hLg htk hpr
        have hsub : (p : Int) - 1 = (j : Int) := by omega
        have hji : (j : Int) < (L : Int) := by omega
        have hj0 : 0 ≤ (j : Int) := by omega
        have hpi : (p : Int) < (L : Int) := by omega
        have hp0 : 0 ≤ (p : Int) := by omega
        have hwr : IntKind.i64.wrap ((p : Int) - 1) = (j : Int) := by rw [IntWalk.i64_in _ (by omega)]; omega
        clear hpj
        have HOB := Lib.hid (show okD t from HOT.out)
        obtain ⟨ht1, ht2⟩ : -1000 ≤ t.to_ ∧ t.to_ ≤ 1000 := HOT.out.2.1
        obtain ⟨hq1, hq2⟩ : -1000 ≤ pr.to_ ∧ pr.to_ ≤ 1000 := HOP.out.2.1
        have n0 : -6 < (pr.to_ + 1).tmod 6 := Int.lt_tmod_of_pos _ (by decide)
        have n1 : (pr.to_ + 1).tmod 6 < 6 := Int.tmod_lt_of_pos _ (by decide)
        have m0 : -6 < (t.to_ + 1).tmod 6 := Int.lt_tmod_of_pos _ (by decide)
        have m1 : (t.to_ + 1).tmod 6 < 6 := Int.tmod_lt_of_pos _ (by decide)
        obtain ⟨X, HX⟩ : ∃ X, Hid (w2.heap.size = X) := ⟨_, Lib.hid rfl⟩
        have HBX := Lib.hid (show ∀ y : Lg, GS W0 w.heap.size w.heap.size (200 + p + 1) A n cap zs (.slice (some ⟨g, 0, none⟩) L c) us (w2.alloc (.cells #[.int .i64 y.frm, .int .i64 y.to_, .int .i64 y.tape, .int .i64 y.comp, .int .i64 y.slope] 28)) ∧ Blk (w2.alloc (.cells #[.int .i64 y.frm, .int .i64 y.to_, .int .i64 y.tape, .int .i64 y.comp, .int .i64 y.slope] 28)) X 28 #[.int .i64 y.frm, .int .i64 y.to_, .int .i64 y.tape, .int .i64 y.comp, .int .i64 y.slope] ∧ g < X from fun y => by
          rw [← HX.out]
          have hh := HS2.out.2.2.1
          rw [HL.out] at hh
          exact ⟨HS2.out.alloc _, Blk.new _ _ _, (hh.lt g rfl).2⟩)
        go_upto_if 38 with fail
        rw [HX.out]
        go_cut [39] (fun _ wx => ∃ y : Lg, okD y ∧ GS W0 w.heap.size w.heap.size (200 + p + 1) A n cap zs (.slice (some ⟨g, 0, none⟩) L c) us wx ∧ Blk wx X 28 #[.int .i64 y.frm, .int .i64 y.to_, .int .i64 y.tape, .int .i64 y.comp, .int .i64 y.slope] ∧ g < X)
        case first =>
          as_aux_lemma =>
            have hob := HOT.out
            have hop := HOP.out
            unfold okD at hob hop
            have HY := HBX.out ⟨pr.to_, t.to_, t.tape, t.comp, t.slope⟩
            obtain ⟨y0, y1, y2, y3, y4⟩ := (⟨HY.2.1.cell 0, HY.2.1.cell 1, HY.2.1.cell 2, HY.2.1.cell 3, HY.2.1.cell 4⟩ : (w2.alloc (.cells #[.int .i64 pr.to_, .int .i64 t.to_, .int .i64 t.tape, .int .i64 t.comp, .int .i64 t.slope] 28)).cell? ⟨X, 0, none⟩ = some (.int .i64 pr.to_) ∧ (w2.alloc (.cells #[.int .i64 pr.to_, .int .i64 t.to_, .int .i64 t.tape, .int .i64 t.comp, .int .i64 t.slope] 28)).cell? ⟨X, 1, none⟩ = some (.int .i64 t.to_) ∧ (w2.alloc (.cells #[.int .i64 pr.to_, .int .i64 t.to_, .int .i64 t.tape, .int .i64 t.comp, .int .i64 t.slope] 28)).cell? ⟨X, 2, none⟩ = some (.int .i64 t.tape) ∧ (w2.alloc (.cells #[.int .i64 pr.to_, .int .i64 t.to_, .int .i64 t.tape, .int .i64 t.comp, .int .i64 t.slope] 28)).cell? ⟨X, 3, none⟩ = some (.int .i64 t.comp) ∧ (w2.alloc (.cells #[.int .i64 pr.to_, .int .i64 t.to_, .int .i64 t.tape, .int .i64 t.comp, .int .i64 t.slope] 28)).cell? ⟨X, 4, none⟩ = some (.int .i64 t.slope))
            have yf := HY.2.1.frozen 1
            have HY2 := Lib.hid HY
            clear HY
            cases hde : (t.to_ == pr.to_)
            · go_wp2_with fail
              go_meet
              case rel => exact ⟨⟨pr.to_, t.to_, t.tape, t.comp, t.slope⟩, by unfold okD; (try simp only []); omega, HY2.out⟩
            · go_wp2_with fail
              go_meet
              case rel => exact ⟨⟨pr.to_, (t.to_ + 1).tmod 6, t.tape, t.comp, t.slope⟩, by unfold okD; (try simp only []); omega, by
                obtain ⟨r1, r2, r3⟩ := HY2.out
                have hne : ¬ w.heap.size = X := by have := r1.2.2.2.2.1; omega
                have hlo : W0.heap.size ≤ X := by have := r1.2.2.1.lt g rfl; omega
                refine ⟨⟨cur_set r1.1 (by exact hne) (by show w.heap.size ≤ X; have := r1.2.2.2.2.2; omega) _, cure.grown_set r1.2.1 hlo _, ?_, r1.2.2.2⟩, r2.set_ 1 _, r3⟩
                exact r1.2.2.1.kept (row := some X) (grown_cell (grown_refl _ _) _ _) (.inr (fun q => absurd (show g = X by simpa [Value.ownBlock] using q) (by omega)))⟩
        case rest =>
          as_aux_lemma =>
            obtain ⟨y, hoy, hGy, hBy, hgX⟩ := hcut
            have HOY := Lib.hid hoy
            have HGY := Lib.hid hGy
            have hrow := hGy.2.2.1
            rw [HL.out] at hrow
            obtain ⟨y0, y1, y2, y3, y4⟩ := (⟨hBy.cell 0, hBy.cell 1, hBy.cell 2, hBy.cell 3, hBy.cell 4⟩ : wc.cell? ⟨X, 0, none⟩ = some (.int .i64 y.frm) ∧ wc.cell? ⟨X, 1, none⟩ = some (.int .i64 y.to_) ∧ wc.cell? ⟨X, 2, none⟩ = some (.int .i64 y.tape) ∧ wc.cell? ⟨X, 3, none⟩ = some (.int .i64 y.comp) ∧ wc.cell? ⟨X, 4, none⟩ = some (.int .i64 y.slope))
            have xl := hBy.lt
            obtain ⟨c0, k0⟩ : ∃ c, wc.cell? ⟨g, p * 5, none⟩ = some c := ⟨_, (hrow.cellAt (p * 5) (by omega)).trans (List.getElem?_eq_getElem (by rw [flatLg_len, HL.out]; omega))⟩
            have f0 := hrow.frozenAt (p * 5)
            obtain ⟨c1, k1⟩ : ∃ c, wc.cell? ⟨g, p * 5 + 1, none⟩ = some c := ⟨_, (hrow.cellAt (p * 5 + 1) (by omega)).trans (List.getElem?_eq_getElem (by rw [flatLg_len, HL.out]; omega))⟩
            have f1 := hrow.frozenAt (p * 5 + 1)
            obtain ⟨c2, k2⟩ : ∃ c, wc.cell? ⟨g, p * 5 + 2, none⟩ = some c := ⟨_, (hrow.cellAt (p * 5 + 2) (by omega)).trans (List.getElem?_eq_getElem (by rw [flatLg_len, HL.out]; omega))⟩
            have f2 := hrow.frozenAt (p * 5 + 2)
            obtain ⟨c3, k3⟩ : ∃ c, wc.cell? ⟨g, p * 5 + 3, none⟩ = some c := ⟨_, (hrow.cellAt (p * 5 + 3) (by omega)).trans (List.getElem?_eq_getElem (by rw [flatLg_len, HL.out]; omega))⟩
            have f3 := hrow.frozenAt (p * 5 + 3)
            obtain ⟨c4, k4⟩ : ∃ c, wc.cell? ⟨g, p * 5 + 4, none⟩ = some c := ⟨_, (hrow.cellAt (p * 5 + 4) (by omega)).trans (List.getElem?_eq_getElem (by rw [flatLg_len, HL.out]; omega))⟩
            have f4 := hrow.frozenAt (p * 5 + 4)
            clear hrow hoy hGy hBy HBX HS2
            go_wp2_with fail
            go_roundw
            case rel => exact ⟨p + 1, us.set p y, by omega, by omega, by go_num, Lib.hid (by rw [List.length_set]; exact HL.out), (HGY.out.put HL.out hlt HOY.out).more (by omega)⟩
            case measure => simp [intOf]; omega
      · go_wp2_with fail
        go_ret
        exact ⟨_, us, rfl, by rw [HL.out]; exact own_base (base := W0.heap.size) (by rw [HWS.out]; omega) (by have := HS2.out.2.2.1; rw [HL.out] at this; exact this), by rw [HL.out]; exact hl, HLW.out _ HS2.out.2.1⟩
    · have hd1 : decide ((p : Int) < (L : Int)) = false := by simp; omega
      have hd2 : decide (p < L) = false := by simpa using hlt
      go_wp2_with fail
      go_ret
      exact ⟨_, us, rfl, by rw [HL.out]; exact own_base (base := W0.heap.size) (by rw [HWS.out]; omega) (by have := HS.out.2.2.1; rw [HL.out] at this; exact this), by rw [HL.out]; exact hl, HLW.out _ HS.out.2.1⟩
end Go.Proofs.YtpacgdjbclogoaaDoor.drl
