/-
  The program's tools: the first best of some tools.
  Conditions: tools and checks lie in blocks below the call's own.
-/
import Derived.Test.YtekbiapgbhaibaaTiA
import Derived.Test.YtekbiapgbhaibaaTlU
namespace Go.Proofs.Ytekbiapgbhaibaa.tli
open Go.RowKit
open reads tl tlp
set_option linter.unusedVariables false
set_option linter.unusedSimpArgs false

/-- whether WorstCheck tells a check -/
def wok (y : Tl) (cs : List Ck) : Bool := cksOk y cs && decide (0 ≤ (wv y cs).1)
theorem wok_form (y : Tl) (cs : List Ck) : ∃ i d, ansWorst y cs = .tuple #[.int .i64 i, .int .i64 d, .bool (wok y cs)] ∧ (wok y cs = true → d = (wv y cs).2) := by
  unfold ansWorst wok
  by_cases h : cksOk y cs = true ∧ 0 ≤ (wv y cs).1
  · rw [if_pos h, h.1]
    have : decide (0 ≤ (wv y cs).1) = true := by simpa using h.2
    rw [this]
    exact ⟨_, _, rfl, fun _ => rfl⟩
  · rw [if_neg h]
    have : (cksOk y cs && decide (0 ≤ (wv y cs).1)) = false := by
      rw [Bool.eq_false_iff]
      intro q
      simp only [Bool.and_eq_true, decide_eq_true_eq] at q
      exact h q
    rw [this]
    exact ⟨_, _, rfl, fun q => by cases q⟩
def fbStep (cs : List Ck) (st : Tl × Int × Bool) (y : Tl) : Tl × Int × Bool := if wok y cs = true ∧ (st.2.2 = false ∨ (wv y cs).2 < st.2.1) then (y, (wv y cs).2, true) else st
def fbN (cs : List Ck) (ts : List Tl) : Nat → Tl × Int × Bool
  | 0 => (⟨0, 0, 0, 0⟩, 0, false)
  | k + 1 => match ts[k]? with
    | none => fbN cs ts k
    | some y => fbStep cs (fbN cs ts k) y
theorem fbN_step {cs : List Ck} {ts : List Tl} {k : Nat} {y : Tl} (h : ts[k]? = some y) : fbN cs ts (k + 1) = fbStep cs (fbN cs ts k) y := by
  show (match ts[k]? with | none => fbN cs ts k | some y => _) = _
  rw [h]

/-- the two blocks of a search: the answer, the best so far -/
def FB (w : World) (T : TypeId) (best : Tl) (v : World) : Prop :=
  Blk v w.heap.size T #[.int .i64 0, .int .i64 0, .int .i64 0, .int .i64 0] ∧ Blk v (w.heap.size + 1) T #[.int .i64 best.id, .int .i64 best.kind, .int .i64 best.zero, .int .i64 best.scale] ∧ Below w.heap.size w v
section
variable {w v v' : World} {T : TypeId} {best : Tl}
theorem FB.start (w : World) (T : TypeId) : FB w T ⟨0, 0, 0, 0⟩ ((w.alloc (.cells #[.int .i64 0, .int .i64 0, .int .i64 0, .int .i64 0] T)).alloc (.cells #[.int .i64 0, .int .i64 0, .int .i64 0, .int .i64 0] T)) := by
  refine ⟨(Blk.new w T _).alloc _, ?_, ((Below.refl _ _).alloc (Nat.le_refl _) _).alloc (by simp) _⟩
  have h := Blk.new (w.alloc (.cells #[.int .i64 0, .int .i64 0, .int .i64 0, .int .i64 0] T)) T #[.int .i64 0, .int .i64 0, .int .i64 0, .int .i64 0]
  simpa using h
theorem FB.step (h : FB w T best v) (hb : Below v.heap.size v v') : FB w T best v' :=
  ⟨h.1.below hb h.1.lt, h.2.1.below hb h.2.1.lt, h.2.2.trans (hb.mono h.2.2.size)⟩
theorem FB.put (h : FB w T best v) (y : Tl) : FB w T y ((((v.setCell ⟨w.heap.size + 1, 0, none⟩ (.int .i64 y.id)).setCell ⟨w.heap.size + 1, 1, none⟩ (.int .i64 y.kind)).setCell ⟨w.heap.size + 1, 2, none⟩ (.int .i64 y.zero)).setCell ⟨w.heap.size + 1, 3, none⟩ (.int .i64 y.scale)) := by
  obtain ⟨h1, h3, h4⟩ := h
  refine ⟨(((h1.far (by show _ ≠ _; simp) _).far (by show _ ≠ _; simp) _).far (by show _ ≠ _; simp) _).far (by show _ ≠ _; simp) _, ?_, (((h4.setCell (by simp) _).setCell (by simp) _).setCell (by simp) _).setCell (by simp) _⟩
  have h := (((h3.set_ 0 (.int .i64 y.id)).set_ 1 (.int .i64 y.kind)).set_ 2 (.int .i64 y.zero)).set_ 3 (.int .i64 y.scale)
  simpa using h
theorem FB.bs (h : FB w T best v) : v.cell? ⟨w.heap.size + 1, 0, none⟩ = some (.int .i64 best.id) ∧ v.cell? ⟨w.heap.size + 1, 1, none⟩ = some (.int .i64 best.kind) ∧ v.cell? ⟨w.heap.size + 1, 2, none⟩ = some (.int .i64 best.zero) ∧ v.cell? ⟨w.heap.size + 1, 3, none⟩ = some (.int .i64 best.scale) :=
  ⟨h.2.1.cell 0, h.2.1.cell 1, h.2.1.cell 2, h.2.1.cell 3⟩
theorem FB.rs (h : FB w T best v) : v.cell? ⟨w.heap.size, 0, none⟩ = some (.int .i64 0) ∧ v.cell? ⟨w.heap.size, 1, none⟩ = some (.int .i64 0) ∧ v.cell? ⟨w.heap.size, 2, none⟩ = some (.int .i64 0) ∧ v.cell? ⟨w.heap.size, 3, none⟩ = some (.int .i64 0) :=
  ⟨h.1.cell 0, h.1.cell 1, h.1.cell 2, h.1.cell 3⟩
theorem FB.bfro (h : FB w T best v) : v.frozen? ⟨w.heap.size + 1, 0, none⟩ = false ∧ v.frozen? ⟨w.heap.size + 1, 1, none⟩ = false ∧ v.frozen? ⟨w.heap.size + 1, 2, none⟩ = false ∧ v.frozen? ⟨w.heap.size + 1, 3, none⟩ = false :=
  ⟨h.2.1.frozen 0, h.2.1.frozen 1, h.2.1.frozen 2, h.2.1.frozen 3⟩
theorem FB.rfro (h : FB w T best v) : v.frozen? ⟨w.heap.size, 0, none⟩ = false ∧ v.frozen? ⟨w.heap.size, 1, none⟩ = false ∧ v.frozen? ⟨w.heap.size, 2, none⟩ = false ∧ v.frozen? ⟨w.heap.size, 3, none⟩ = false :=
  ⟨h.1.frozen 0, h.1.frozen 1, h.1.frozen 2, h.1.frozen 3⟩
end

theorem worst_at (y : Tl) (A : Option Addr) (n cap : Nat) (cs : List Ck) (i d : Int) (t : Bool) (w : World) (hn : n ≤ 2000000) (hcs : Hid (CksAt w w.heap.size A n cs)) (h : Hid (ansWorst y cs = .tuple #[.int .i64 i, .int .i64 d, .bool t])) :
    Calls Try.prog 24 #[.agg #[.int .i64 y.id, .int .i64 y.kind, .int .i64 y.zero, .int .i64 y.scale], .slice A n cap] w (APost (.tuple #[.int .i64 i, .int .i64 d, .bool t]) w) := by
  rw [← h.out]; exact worstCheck_impl y A n cap cs w hn hcs

set_option maxHeartbeats 4000000 in
set_option maxRecDepth 100000 in
theorem firstBest_any (A C : Option Addr) (n m cap cap' : Nat) (ts : List Tl) (cs : List Ck) (w : World) (hn : n ≤ 2000000) (hm : m ≤ 2000000) (hts : Hid (TlsAt w w.heap.size A n ts)) (hcs : Hid (CksAt w w.heap.size C m cs)) :
    Calls Try.prog 64 #[.slice A n cap, .slice C m cap'] w (TPost ((fbN cs ts n).1, (fbN cs ts n).2.2) w) := by
  have HI0 := Lib.hid (FB.start w 25)
  have hL : Hid (ts.length = n) := Lib.hid hts.out.1
  go_enter Try.func64, Try.ntmps64
  go_wp2_with fail
  go_loopw [7, 8, 17] (fun s f i wr => ∃ (k : Nat) (best : Tl) (v : Int) (t : Bool), k ≤ n ∧ i = .int .i64 k ∧ s = .int .i64 v ∧ f = .bool t ∧ Hid (fbN cs ts k = (best, v, t)) ∧ FB w 25 best wr) (fun _ _ i _ => n - (intOf i).toNat)
  case atStart => exact ⟨0, ⟨0, 0, 0, 0⟩, 0, false, Nat.zero_le _, rfl, rfl, rfl, Lib.hid rfl, HI0.out⟩
  case round =>
    obtain ⟨k, best, v, t, hk, rfl, rfl, rfl, HV, hF⟩ := hrel
    have HF := Lib.hid hF
    have hsz := hF.2.2.size
    have h3 := hF.2.1.lt
    clear hF HI0
    by_cases hlt : k < n
    · obtain ⟨y, hyk⟩ : ∃ y, ts[k]? = some y := ⟨_, List.getElem?_eq_getElem (by rw [hL.out]; exact hlt)⟩
      obtain ⟨g, rfl, hg, e0, e1, e2, e3⟩ := (hts.out.below HF.out.2.2).2 k y hyk
      have hki : (k : Int) < (n : Int) := by omega
      have hk0 : 0 ≤ (k : Int) := by omega
      have hkd : decide (k < n) = true := by simpa using hlt
      obtain ⟨i, d, hw, hd⟩ := wok_form y cs
      obtain ⟨o, HO⟩ : ∃ o, Hid (wok y cs = o) := ⟨_, Lib.hid rfl⟩
      rw [HO.out] at hw hd
      have HW := Lib.hid hw
      have HS := Lib.hid (show fbN cs ts (k + 1) = if o = true ∧ (t = false ∨ (wv y cs).2 < v) then (y, (wv y cs).2, true) else (best, v, t) by
        rw [fbN_step hyk, HV.out]
        unfold fbStep
        rw [HO.out])
      have HC := Lib.hid (cks_alloc (cks_step hcs.out HF.out.2.2) (.cells #[.int .i64 y.id, .int .i64 y.kind, .int .i64 y.zero, .int .i64 y.scale] 25))
      clear hw hyk
      cases o
      · have HS2 := Lib.hid (HS.out.trans (if_neg (by simp)))
        clear hd
        go_wp2_with fail
        refine (worst_at y C m cap' cs i d false _ hm HC HW).mono ?_
        rintro e w2 ⟨rfl, b2⟩
        have HG := Lib.hid (HF.out.step (((Below.refl wr.heap.size wr).alloc (Nat.le_refl _) _).trans (b2.mono (by simp))))
        clear b2
        go_wp2_with fail
        go_roundw
        case rel => exact ⟨k + 1, best, v, t, by omega, by go_num, rfl, rfl, HS2, HG.out⟩
        case measure => simp [intOf]; omega
      · have HD := Lib.hid (hd rfl)
        clear hd
        cases t
        · have HS2 := Lib.hid (show fbN cs ts (k + 1) = (y, d, true) by rw [HS.out, if_pos ⟨rfl, .inl rfl⟩, HD.out])
          go_wp2_with fail
          refine (worst_at y C m cap' cs i d true _ hm HC HW).mono ?_
          rintro e w2 ⟨rfl, b2⟩
          have HG := Lib.hid (HF.out.step (((Below.refl wr.heap.size wr).alloc (Nat.le_refl _) _).trans (b2.mono (by simp))))
          obtain ⟨f0, f1, f2, f3⟩ := HG.out.bfro
          obtain ⟨g0, g1, g2, g3⟩ := HG.out.bs
          obtain ⟨hc2, hf2⟩ := bcell b2
          clear b2
          go_wp2_with fail
          go_roundw
          case rel => exact ⟨k + 1, y, d, true, by omega, by go_num, rfl, rfl, HS2, HG.out.put _⟩
          case measure => simp [intOf]; omega
        · by_cases m0 : d < v
          · have HS2 := Lib.hid (show fbN cs ts (k + 1) = (y, d, true) by rw [HS.out, if_pos ⟨rfl, .inr (by rw [← HD.out]; exact m0)⟩, HD.out])
            go_wp2_with fail
            refine (worst_at y C m cap' cs i d true _ hm HC HW).mono ?_
            rintro e w2 ⟨rfl, b2⟩
            have HG := Lib.hid (HF.out.step (((Below.refl wr.heap.size wr).alloc (Nat.le_refl _) _).trans (b2.mono (by simp))))
            obtain ⟨f0, f1, f2, f3⟩ := HG.out.bfro
            obtain ⟨g0, g1, g2, g3⟩ := HG.out.bs
            obtain ⟨hc2, hf2⟩ := bcell b2
            clear b2
            go_wp2_with fail
            go_roundw
            case rel => exact ⟨k + 1, y, d, true, by omega, by go_num, rfl, rfl, HS2, HG.out.put _⟩
            case measure => simp [intOf]; omega
          · have HS2 := Lib.hid (show fbN cs ts (k + 1) = (best, v, true) by rw [HS.out, if_neg (fun q => by rcases q.2 with q | q; (cases q); (rw [← HD.out] at q; exact m0 q))])
            have md : decide (d < v) = false := by simpa using m0
            go_wp2_with fail
            refine (worst_at y C m cap' cs i d true _ hm HC HW).mono ?_
            rintro e w2 ⟨rfl, b2⟩
            have HG := Lib.hid (HF.out.step (((Below.refl wr.heap.size wr).alloc (Nat.le_refl _) _).trans (b2.mono (by simp))))
            clear b2
            go_wp2_with fail
            go_roundw
            case rel => exact ⟨k + 1, best, v, true, by omega, by go_num, rfl, rfl, HS2, HG.out⟩
            case measure => simp [intOf]; omega
    · obtain rfl : k = n := by omega
      have hkd : decide (k < k) = false := by simp
      obtain ⟨g0, g1, g2, g3⟩ := HF.out.bs
      obtain ⟨r0, r1, r2, r3⟩ := HF.out.rs
      obtain ⟨q0, q1, q2, q3⟩ := HF.out.rfro
      have HA := Lib.hid (show ((fbN cs ts k).1, (fbN cs ts k).2.2) = (best, t) by rw [HV.out])
      have hB := HF.out.2.2
      have HB := Lib.hid hB
      clear hB
      go_wp2_with fail
      refine bodyPost_ret (v := .tuple #[.agg #[.int .i64 best.id, .int .i64 best.kind, .int .i64 best.zero, .int .i64 best.scale], .bool t]) (by simp [results, Try.results64, go_sem, *]) rfl ⟨by rw [HA.out], ?_⟩
      exact (((HB.out.setCell (by simp) _).setCell (by simp) _).setCell (by simp) _).setCell (by simp) _
end Go.Proofs.Ytekbiapgbhaibaa.tli
