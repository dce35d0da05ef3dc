/-
  The model of the tools: FitZero, FitScale.
  Conditions: the checks lie in one block below the call's own.
-/
import Derived.Test.YtekbiapgbhaibaaTlG
namespace Go.Proofs.Ytekbiapgbhaibaa.tl
open Go.RowKit
open reads
set_option linter.unusedVariables false
set_option linter.unusedSimpArgs false

/-- the three blocks of a search: the tool, the answer, the best so far -/
def FI (w : World) (T : TypeId) (x best : Tl) (v : World) : Prop :=
  Blk v w.heap.size T #[.int .i64 x.id, .int .i64 x.kind, .int .i64 x.zero, .int .i64 x.scale] ∧ Blk v (w.heap.size + 1) T #[.int .i64 0, .int .i64 0, .int .i64 0, .int .i64 0] ∧
    Blk v (w.heap.size + 1 + 1) T #[.int .i64 best.id, .int .i64 best.kind, .int .i64 best.zero, .int .i64 best.scale] ∧ Below w.heap.size w v
section
variable {w v v' : World} {T : TypeId} {x best : Tl}
theorem FI.start (w : World) (T : TypeId) (x : Tl) : FI w T x ⟨0, 0, 0, 0⟩ (((w.alloc (.cells #[.int .i64 x.id, .int .i64 x.kind, .int .i64 x.zero, .int .i64 x.scale] T)).alloc (.cells #[.int .i64 0, .int .i64 0, .int .i64 0, .int .i64 0] T)).alloc (.cells #[.int .i64 0, .int .i64 0, .int .i64 0, .int .i64 0] T)) := by
  refine ⟨((Blk.new w T _).alloc _).alloc _, ?_, ?_, (((Below.refl _ _).alloc (Nat.le_refl _) _).alloc (by simp) _).alloc (by simp; omega) _⟩
  · have h := (Blk.new (w.alloc (.cells #[.int .i64 x.id, .int .i64 x.kind, .int .i64 x.zero, .int .i64 x.scale] T)) T #[.int .i64 0, .int .i64 0, .int .i64 0, .int .i64 0]).alloc (.cells #[.int .i64 0, .int .i64 0, .int .i64 0, .int .i64 0] T)
    simpa using h
  · have h := Blk.new ((w.alloc (.cells #[.int .i64 x.id, .int .i64 x.kind, .int .i64 x.zero, .int .i64 x.scale] T)).alloc (.cells #[.int .i64 0, .int .i64 0, .int .i64 0, .int .i64 0] T)) T #[.int .i64 0, .int .i64 0, .int .i64 0, .int .i64 0]
    simpa using h
theorem FI.step (h : FI w T x best v) (hb : Below v.heap.size v v') : FI w T x best v' :=
  ⟨h.1.below hb h.1.lt, h.2.1.below hb h.2.1.lt, h.2.2.1.below hb h.2.2.1.lt, h.2.2.2.trans (hb.mono h.2.2.2.size)⟩
theorem FI.put (h : FI w T x best v) (y : Tl) : FI w T x y ((((v.setCell ⟨w.heap.size + 1 + 1, 0, none⟩ (.int .i64 y.id)).setCell ⟨w.heap.size + 1 + 1, 1, none⟩ (.int .i64 y.kind)).setCell ⟨w.heap.size + 1 + 1, 2, none⟩ (.int .i64 y.zero)).setCell ⟨w.heap.size + 1 + 1, 3, none⟩ (.int .i64 y.scale)) := by
  obtain ⟨h1, h2, h3, h4⟩ := h
  refine ⟨(((h1.far (by show _ ≠ _; simp; omega) _).far (by show _ ≠ _; simp; omega) _).far (by show _ ≠ _; simp; omega) _).far (by show _ ≠ _; simp; omega) _, (((h2.far (by show _ ≠ _; simp) _).far (by show _ ≠ _; simp) _).far (by show _ ≠ _; simp) _).far (by show _ ≠ _; simp) _, ?_, (((h4.setCell (by simp; omega) _).setCell (by simp; omega) _).setCell (by simp; omega) _).setCell (by simp; omega) _⟩
  have h := (((h3.set_ 0 (.int .i64 y.id)).set_ 1 (.int .i64 y.kind)).set_ 2 (.int .i64 y.zero)).set_ 3 (.int .i64 y.scale)
  simpa using h
theorem FI.xs (h : FI w T x best v) : v.cell? ⟨w.heap.size, 0, none⟩ = some (.int .i64 x.id) ∧ v.cell? ⟨w.heap.size, 1, none⟩ = some (.int .i64 x.kind) ∧ v.cell? ⟨w.heap.size, 2, none⟩ = some (.int .i64 x.zero) ∧ v.cell? ⟨w.heap.size, 3, none⟩ = some (.int .i64 x.scale) :=
  ⟨h.1.cell 0, h.1.cell 1, h.1.cell 2, h.1.cell 3⟩
theorem FI.bs (h : FI w T x best v) : v.cell? ⟨w.heap.size + 1 + 1, 0, none⟩ = some (.int .i64 best.id) ∧ v.cell? ⟨w.heap.size + 1 + 1, 1, none⟩ = some (.int .i64 best.kind) ∧ v.cell? ⟨w.heap.size + 1 + 1, 2, none⟩ = some (.int .i64 best.zero) ∧ v.cell? ⟨w.heap.size + 1 + 1, 3, none⟩ = some (.int .i64 best.scale) :=
  ⟨h.2.2.1.cell 0, h.2.2.1.cell 1, h.2.2.1.cell 2, h.2.2.1.cell 3⟩
theorem FI.rs (h : FI w T x best v) : v.cell? ⟨w.heap.size + 1, 0, none⟩ = some (.int .i64 0) ∧ v.cell? ⟨w.heap.size + 1, 1, none⟩ = some (.int .i64 0) ∧ v.cell? ⟨w.heap.size + 1, 2, none⟩ = some (.int .i64 0) ∧ v.cell? ⟨w.heap.size + 1, 3, none⟩ = some (.int .i64 0) :=
  ⟨h.2.1.cell 0, h.2.1.cell 1, h.2.1.cell 2, h.2.1.cell 3⟩
theorem FI.bfro (h : FI w T x best v) : v.frozen? ⟨w.heap.size + 1 + 1, 0, none⟩ = false ∧ v.frozen? ⟨w.heap.size + 1 + 1, 1, none⟩ = false ∧ v.frozen? ⟨w.heap.size + 1 + 1, 2, none⟩ = false ∧ v.frozen? ⟨w.heap.size + 1 + 1, 3, none⟩ = false :=
  ⟨h.2.2.1.frozen 0, h.2.2.1.frozen 1, h.2.2.1.frozen 2, h.2.2.1.frozen 3⟩
theorem FI.rfro (h : FI w T x best v) : v.frozen? ⟨w.heap.size + 1, 0, none⟩ = false ∧ v.frozen? ⟨w.heap.size + 1, 1, none⟩ = false ∧ v.frozen? ⟨w.heap.size + 1, 2, none⟩ = false ∧ v.frozen? ⟨w.heap.size + 1, 3, none⟩ = false :=
  ⟨h.2.1.frozen 0, h.2.1.frozen 1, h.2.1.frozen 2, h.2.1.frozen 3⟩
end

set_option maxHeartbeats 4000000 in
set_option maxRecDepth 100000 in
theorem fitZero_go (x : Tl) (A : Option Addr) (n cap : Nat) (cs : List Ck) (w : World) (hn : n ≤ 2000000) (hcs : Hid (CksAt w w.heap.size A n cs)) (hc : Hid (cksOk x cs = true)) :
    Calls Try.prog 23 #[.agg #[.int .i64 x.id, .int .i64 x.kind, .int .i64 x.zero, .int .i64 x.scale], .slice A n cap] w (TPost ((fitN (mkZ x) cs (-50) 101).1, decide (0 ≤ (fitN (mkZ x) cs (-50) 101).2)) w) := by
  have H0 := Lib.hid (cks_alloc (cks_alloc (cks_alloc hcs.out (.cells #[.int .i64 x.id, .int .i64 x.kind, .int .i64 x.zero, .int .i64 x.scale] 25)) (.cells #[.int .i64 0, .int .i64 0, .int .i64 0, .int .i64 0] 25)) (.cells #[.int .i64 0, .int .i64 0, .int .i64 0, .int .i64 0] 25))
  have hL : Hid (cs.length ≤ 2000000) := Lib.hid (by have := hcs.out.1; omega)
  have HI0 := Lib.hid (FI.start w 25 x)
  go_enter Try.func23, Try.ntmps23
  go_wp2_with fail
  refine (checks_is x A n cap cs true _ hn H0 hc).mono ?_
  rintro e w1 ⟨rfl, b1⟩
  have HI := Lib.hid (HI0.out.step b1)
  clear b1 HI0 H0
  go_wp2_with fail
  go_loopw [7, 8] (fun l z wr => ∃ (k : Nat) (best : Tl) (v : Int), k ≤ 101 ∧ z = .int .i64 ((-50) + (k : Int)) ∧ l = .int .i64 v ∧ Hid (fitN (mkZ x) cs (-50) k = (best, v)) ∧ FI w 25 x best wr) (fun _ z _ => (51 - intOf z).toNat)
  case atStart => exact ⟨0, ⟨0, 0, 0, 0⟩, -1, Nat.zero_le _, by first | rfl | go_num, rfl, Lib.hid rfl, HI.out⟩
  case round =>
    obtain ⟨k, best, v, hk, rfl, rfl, HV, hF⟩ := hrel
    obtain ⟨x0, x1, x2, x3⟩ := hF.xs
    have vb := fitN_bd (mkZ x) cs (-50) hL.out k
    rw [HV.out] at vb
    simp only [] at vb
    have HF := Lib.hid hF
    have hsz := hF.2.2.2.size
    have h3 := hF.2.2.1.lt
    clear hF HI
    by_cases hlt : k < 101
    · obtain ⟨z, hz⟩ : ∃ z : Int, (-50) + (k : Int) = z := ⟨_, rfl⟩
      have hz1 : (-50) ≤ z := by omega
      have hz2 : z ≤ 51 - 1 := by omega
      have HZ := Lib.hid hz
      rw [hz]
      clear hz
      obtain ⟨u, m, HU⟩ : ∃ u m, Hid (wv (mkZ x z) cs = (u, m)) := ⟨_, _, Lib.hid rfl⟩
      have ub := wv_bd (mkZ x z) cs hL.out
      rw [HU.out] at ub
      simp only [] at ub
      have HS := Lib.hid (show fitN (mkZ x) cs (-50) (k + 1) = if 0 ≤ u ∧ (v < 0 ∨ m < v) then (mkZ x z, m) else (best, v) by
        show fitStep (mkZ x) cs (fitN (mkZ x) cs (-50) k) ((-50) + k) = _
        rw [HV.out, HZ.out]
        unfold fitStep
        rw [HU.out])
      have HC := Lib.hid (cks_alloc (cks_step hcs.out HF.out.2.2.2) (.cells #[.int .i64 x.id, .int .i64 x.kind, .int .i64 z, .int .i64 x.scale] 25))
      go_wp2_with fail
      refine (worst_is (mkZ x z) A n cap cs u m _ hn HC HU).mono ?_
      rintro e w2 ⟨rfl, b2⟩
      have HG := Lib.hid (HF.out.step (((Below.refl wr.heap.size wr).alloc (Nat.le_refl _) _).trans (b2.mono (by simp))))
      obtain ⟨f0, f1, f2, f3⟩ := HG.out.bfro
      obtain ⟨g0, g1, g2, g3⟩ := HG.out.bs
      obtain ⟨hc2, hf2⟩ := bcell b2
      clear b2
      by_cases u0 : 0 ≤ u
      · by_cases v0 : v < 0
        · have HS2 := Lib.hid (HS.out.trans (if_pos ⟨u0, .inl v0⟩))
          go_wp2_with fail
          go_roundw
          case rel => exact ⟨k + 1, mkZ x z, m, by omega, by rw [← HZ.out]; go_num, rfl, HS2, HG.out.put _⟩
          case measure => simp [intOf]; omega
        · by_cases m0 : m < v
          · have HS2 := Lib.hid (HS.out.trans (if_pos ⟨u0, .inr m0⟩))
            go_wp2_with fail
            go_roundw
            case rel => exact ⟨k + 1, mkZ x z, m, by omega, by rw [← HZ.out]; go_num, rfl, HS2, HG.out.put _⟩
            case measure => simp [intOf]; omega
          · have HS2 := Lib.hid (HS.out.trans (if_neg (by omega)))
            go_wp2_with fail
            go_roundw
            case rel => exact ⟨k + 1, best, v, by omega, by rw [← HZ.out]; go_num, rfl, HS2, HG.out⟩
            case measure => simp [intOf]; omega
      · have HS2 := Lib.hid (HS.out.trans (if_neg (by omega)))
        go_wp2_with fail
        go_roundw
        case rel => exact ⟨k + 1, best, v, by omega, by rw [← HZ.out]; go_num, rfl, HS2, HG.out⟩
        case measure => simp [intOf]; omega
    · obtain rfl : k = 101 := by omega
      obtain ⟨g0, g1, g2, g3⟩ := HF.out.bs
      obtain ⟨r0, r1, r2, r3⟩ := HF.out.rs
      obtain ⟨q0, q1, q2, q3⟩ := HF.out.rfro
      have HA := Lib.hid (show ((fitN (mkZ x) cs (-50) 101).1, decide (0 ≤ (fitN (mkZ x) cs (-50) 101).2)) = (best, decide (0 ≤ v)) by rw [HV.out])
      have hB := HF.out.2.2.2
      have HB := Lib.hid hB
      clear hB
      by_cases v0 : 0 ≤ v
      · have dv : decide (0 ≤ v) = true := by simpa using v0
        rw [dv] at HA
        go_wp2_with fail
        refine bodyPost_ret (v := .tuple #[.agg #[.int .i64 best.id, .int .i64 best.kind, .int .i64 best.zero, .int .i64 best.scale], .bool true]) (by simp [results, Try.results23, go_sem, *]) rfl ⟨by rw [HA.out], ?_⟩
        exact (((HB.out.setCell (by simp) _).setCell (by simp) _).setCell (by simp) _).setCell (by simp) _
      · have dv : decide (0 ≤ v) = false := by simpa using v0
        rw [dv] at HA
        go_wp2_with fail
        refine bodyPost_ret (v := .tuple #[.agg #[.int .i64 best.id, .int .i64 best.kind, .int .i64 best.zero, .int .i64 best.scale], .bool false]) (by simp [results, Try.results23, go_sem, *]) rfl ⟨by rw [HA.out], ?_⟩
        exact (((HB.out.setCell (by simp) _).setCell (by simp) _).setCell (by simp) _).setCell (by simp) _
end Go.Proofs.Ytekbiapgbhaibaa.tl
