/-
  The extent of places, by the model.
  Conditions: the legs lie in one block; at most 2000000 of them.
-/
import Derived.Test.YtnoieboiklmkaaaDoorNtD
import Derived.Test.YtnoieboiklmkaaaDoorMost
import Derived.Test.YtnoieboiklmkaaaDoorLeast
import Derived.Deep.QuietTactic
import Derived.BigQuiet
import Derived.Deep.DeepCutAuto
import Derived.Deep.RegionWith
import Derived.StillTailTactics
namespace Go.Proofs.YtnoieboiklmkaaaDoor.nt
open Go.RowKit
open reads base ty lg rowi hs
set_option linter.unusedVariables false
set_option linter.unusedSimpArgs false

def lo3 (a b : Sf) : Sf := ⟨lst.mn a.east b.east, lst.mn a.north b.north, lst.mn a.up b.up⟩
def hi3 (a b : Sf) : Sf := ⟨mst.mx a.east b.east, mst.mx a.north b.north, mst.mx a.up b.up⟩
def lowN (s : Net) : Nat → Sf
  | 0 => zero3
  | k + 1 => match s.ps[k]? with
    | some q => lo3 (lowN s k) (at_ s.pl q)
    | none => lowN s k
def highN (s : Net) : Nat → Sf
  | 0 => zero3
  | k + 1 => match s.ps[k]? with
    | some q => hi3 (highN s k) (at_ s.pl q)
    | none => highN s k
theorem lowN_succ {s : Net} {k : Nat} {q : Int} (h : s.ps[k]? = some q) : lowN s (k + 1) = lo3 (lowN s k) (at_ s.pl q) := by
  show (match s.ps[k]? with | some q => _ | none => _) = _
  rw [h]
theorem highN_succ {s : Net} {k : Nat} {q : Int} (h : s.ps[k]? = some q) : highN s (k + 1) = hi3 (highN s k) (at_ s.pl q) := by
  show (match s.ps[k]? with | some q => _ | none => _) = _
  rw [h]
def Bd4 (z : Sf) : Prop := (-4000 ≤ z.east ∧ z.east ≤ 4000) ∧ (-4000 ≤ z.north ∧ z.north ≤ 4000) ∧ (-4000 ≤ z.up ∧ z.up ≤ 4000)
theorem bd4_at {s : Net} (h : Ok s) (x : Int) : Bd4 (at_ s.pl x) := by have h1 := at_bd h x; have h2 := h.ps_len; unfold Bd4; omega
theorem ext_bd {s : Net} (h : Ok s) : ∀ k, Bd4 (lowN s k) ∧ Bd4 (highN s k)
  | 0 => by constructor <;> (show Bd4 zero3; unfold Bd4 zero3; decide)
  | k + 1 => by
    obtain ⟨i1, i2⟩ := ext_bd h k
    cases e : s.ps[k]? with
    | none =>
      have e1 : lowN s (k + 1) = lowN s k := by show (match s.ps[k]? with | some q => _ | none => _) = _; rw [e]
      have e2 : highN s (k + 1) = highN s k := by show (match s.ps[k]? with | some q => _ | none => _) = _; rw [e]
      rw [e1, e2]; exact ⟨i1, i2⟩
    | some q =>
      rw [lowN_succ e, highN_succ e]
      have b := bd4_at h q
      unfold Bd4 at i1 i2 b ⊢
      unfold lo3 hi3 lst.mn mst.mx
      simp only []
      constructor <;> (refine ⟨?_, ?_, ?_⟩ <;> (constructor <;> (split <;> omega)))
/-- the boxes: the two answers, the lowest and the highest so far; the places -/
def XS6 (w : World) (L H g1 g2 m2 c2 : Nat) (lo hi : Sf) (N : Net) (v : World) : Prop :=
  Blk v w.heap.size 35 #[.int .i64 0, .int .i64 0, .int .i64 0] ∧ Blk v (w.heap.size + 1) 35 #[.int .i64 0, .int .i64 0, .int .i64 0] ∧ Blk v L 35 #[.int .i64 lo.east, .int .i64 lo.north, .int .i64 lo.up] ∧ Blk v H 35 #[.int .i64 hi.east, .int .i64 hi.north, .int .i64 hi.up] ∧ v.ownsRow (w.heap.size + 2) 35 3 (.slice (some ⟨g1, 0, none⟩) 8 8) 8 (flatSf N.pl) ∧ v.ownsRow (w.heap.size + 2) 3 1 (.slice (some ⟨g2, 0, none⟩) m2 c2) m2 (ints.intsV N.ps) ∧ Below w.heap.size w v ∧ (w.heap.size + 1 < L ∧ L < H ∧ g1 < L ∧ g2 < L)
section
variable {w v v' : World} {L H g1 g2 m2 c2 : Nat} {lo hi : Sf} {N : Net}
theorem XS6.step (h : XS6 w L H g1 g2 m2 c2 lo hi N v) (hb : Below v.heap.size v v') : XS6 w L H g1 g2 m2 c2 lo hi N v' := by
  obtain ⟨h1, h2, h3, h4, h5, h6, h7, h8⟩ := h
  exact ⟨h1.below hb h1.lt, h2.below hb h2.lt, h3.below hb h3.lt, h4.below hb h4.lt, row_below h5 hb, row_below h6 hb, h7.trans (hb.mono h7.size), h8⟩
theorem far6 {X : Nat} {bs size n c g : Nat} {e : TypeId} {ys : List Value} (h : v.ownsRow bs e size (.slice (some ⟨g, 0, none⟩) n c) n ys) (hne : ¬ X = g) (i : Nat) (u : Value) : (v.setCell ⟨X, i, none⟩ u).ownsRow bs e size (.slice (some ⟨g, 0, none⟩) n c) n ys :=
  h.kept (row := some X) ⟨rfl, rfl, rfl, by simp [World.setCell], fun j hj hn => Below.heap_setCell v ⟨X, i, none⟩ u j (by rintro rfl; exact hn rfl)⟩ (.inr (by simp [Value.ownBlock]; exact fun q => hne q.symm))
theorem XS6.low (h : XS6 w L H g1 g2 m2 c2 lo hi N v) (z : Sf) : XS6 w L H g1 g2 m2 c2 z hi N (((v.setCell ⟨L, 0, none⟩ (.int .i64 z.east)).setCell ⟨L, 1, none⟩ (.int .i64 z.north)).setCell ⟨L, 2, none⟩ (.int .i64 z.up)) := by
  obtain ⟨h1, h2, h3, h4, h5, h6, h7, h8⟩ := h
  have n1 : w.heap.size ≠ L := by omega
  have n2 : w.heap.size + 1 ≠ L := by omega
  have n3 : H ≠ L := by omega
  have n4 : ¬ L = g1 := by omega
  have n5 : ¬ L = g2 := by omega
  have hw : w.heap.size ≤ L := by omega
  exact ⟨((h1.far n1 _).far n1 _).far n1 _, ((h2.far n2 _).far n2 _).far n2 _, ((h3.set_ 0 _).set_ 1 _).set_ 2 _, ((h4.far n3 _).far n3 _).far n3 _, far6 (far6 (far6 h5 n4 _ _) n4 _ _) n4 _ _, far6 (far6 (far6 h6 n5 _ _) n5 _ _) n5 _ _, ((h7.setCell hw _).setCell hw _).setCell hw _, h8⟩
theorem XS6.high (h : XS6 w L H g1 g2 m2 c2 lo hi N v) (z : Sf) : XS6 w L H g1 g2 m2 c2 lo z N (((v.setCell ⟨H, 0, none⟩ (.int .i64 z.east)).setCell ⟨H, 1, none⟩ (.int .i64 z.north)).setCell ⟨H, 2, none⟩ (.int .i64 z.up)) := by
  obtain ⟨h1, h2, h3, h4, h5, h6, h7, h8⟩ := h
  have n1 : w.heap.size ≠ H := by omega
  have n2 : w.heap.size + 1 ≠ H := by omega
  have n3 : L ≠ H := by omega
  have n4 : ¬ H = g1 := by omega
  have n5 : ¬ H = g2 := by omega
  have hw : w.heap.size ≤ H := by omega
  exact ⟨((h1.far n1 _).far n1 _).far n1 _, ((h2.far n2 _).far n2 _).far n2 _, ((h3.far n3 _).far n3 _).far n3 _, ((h4.set_ 0 _).set_ 1 _).set_ 2 _, far6 (far6 (far6 h5 n4 _ _) n4 _ _) n4 _ _, far6 (far6 (far6 h6 n5 _ _) n5 _ _) n5 _ _, ((h7.setCell hw _).setCell hw _).setCell hw _, h8⟩
theorem box3 {X : Nat} {T : TypeId} {z : Sf} (h : Blk v X T #[.int .i64 z.east, .int .i64 z.north, .int .i64 z.up]) : v.cell? ⟨X, 0, none⟩ = some (.int .i64 z.east) ∧ v.cell? ⟨X, 1, none⟩ = some (.int .i64 z.north) ∧ v.cell? ⟨X, 2, none⟩ = some (.int .i64 z.up) ∧ v.frozen? ⟨X, 0, none⟩ = false ∧ v.frozen? ⟨X, 1, none⟩ = false ∧ v.frozen? ⟨X, 2, none⟩ = false ∧ X < v.heap.size := ⟨h.cell 0, h.cell 1, h.cell 2, h.frozen 0, h.frozen 1, h.frozen 2, h.lt⟩
theorem box0 {X : Nat} {T : TypeId} (h : Blk v X T #[.int .i64 0, .int .i64 0, .int .i64 0]) : v.cell? ⟨X, 0, none⟩ = some (.int .i64 0) ∧ v.cell? ⟨X, 1, none⟩ = some (.int .i64 0) ∧ v.cell? ⟨X, 2, none⟩ = some (.int .i64 0) ∧ v.frozen? ⟨X, 0, none⟩ = false ∧ v.frozen? ⟨X, 1, none⟩ = false ∧ v.frozen? ⟨X, 2, none⟩ = false ∧ X < v.heap.size := ⟨h.cell 0, h.cell 1, h.cell 2, h.frozen 0, h.frozen 1, h.frozen 2, h.lt⟩
end
theorem most_q (a b v : Int) (h : Hid (mst.mx a b = v)) (w : World) : Calls Tryd.prog 87 #[.int .i64 a, .int .i64 b] w fun e w' => e = .returned (.int .i64 v) ∧ w' = w := (mst.most_is a b v h w).mono fun e w' hh => ⟨hh.1, hh.2.symm⟩
def EPost (lo hi : Sf) (w : World) (e : Ending) (w' : World) : Prop := e = .returned (.tuple #[.agg #[.int .i64 lo.east, .int .i64 lo.north, .int .i64 lo.up], .agg #[.int .i64 hi.east, .int .i64 hi.north, .int .i64 hi.up]]) ∧ Below w.heap.size w w'
set_option maxHeartbeats 16000000 in
set_option maxRecDepth 100000 in
theorem extent_any (A : Option Addr) (n cap : Nat) (ts : List Lg) (lo hi : Sf) (w : World) (hlo : Hid (lowN (net ts) (net ts).ps.length = lo)) (hhi : Hid (highN (net ts) (net ts).ps.length = hi)) (hg : Hid (goodLg ts = true)) (hts : Hid (LgAt w w.heap.size A n ts)) :
    Calls Tryd.prog 67 #[.slice A n cap] w (EPost lo hi w) := by
  obtain ⟨N, HNN⟩ : ∃ N, Hid (net ts = N) := ⟨_, Lib.hid rfl⟩
  have HON := Lib.hid (show Ok N by rw [← HNN.out]; exact ok_net hg.out)
  obtain ⟨m2, HM2⟩ : ∃ m, Hid (N.ps.length = m) := ⟨_, Lib.hid rfl⟩
  have hp8 : m2 ≤ 8 := by rw [← HM2.out]; exact HON.out.ps_len
  have HLO := Lib.hid (show lowN N m2 = lo by rw [← HM2.out, ← HNN.out]; exact hlo.out)
  have HHI := Lib.hid (show highN N m2 = hi by rw [← HM2.out, ← HNN.out]; exact hhi.out)
  have HA := Lib.hid ((hts.out.alloc (.cells #[.int .i64 0, .int .i64 0, .int .i64 0] 35)).alloc (.cells #[.int .i64 0, .int .i64 0, .int .i64 0] 35))
  have HB0 := Lib.hid (((Below.refl w.heap.size w).alloc (Nat.le_refl _) (.cells #[.int .i64 0, .int .i64 0, .int .i64 0] 35)).alloc (by simp) (.cells #[.int .i64 0, .int .i64 0, .int .i64 0] 35))
  have HR1 := Lib.hid ((Blk.new w 35 #[.int .i64 0, .int .i64 0, .int .i64 0]).alloc (.cells #[.int .i64 0, .int .i64 0, .int .i64 0] 35))
  have HR2 := Lib.hid (show Blk ((w.alloc (.cells #[.int .i64 0, .int .i64 0, .int .i64 0] 35)).alloc (.cells #[.int .i64 0, .int .i64 0, .int .i64 0] 35)) (w.heap.size + 1) 35 #[.int .i64 0, .int .i64 0, .int .i64 0] by have h := Blk.new (w.alloc (.cells #[.int .i64 0, .int .i64 0, .int .i64 0] 35)) 35 #[.int .i64 0, .int .i64 0, .int .i64 0]; rwa [show (w.alloc (.cells #[.int .i64 0, .int .i64 0, .int .i64 0] 35)).heap.size = w.heap.size + 1 by simp] at h)
  clear hlo hhi
  go_enter Tryd.func67, Tryd.ntmps67
  go_wp2_with fail
  refine (place_any A n cap ts _ hg HA).mono ?_
  rintro e w2 ⟨g1, g2, c2, g3, c3, rfl, hN⟩
  rw [HNN.out] at hN ⊢
  rw [HM2.out] at hN ⊢
  have hsz : ((w.alloc (.cells #[.int .i64 0, .int .i64 0, .int .i64 0] 35)).alloc (.cells #[.int .i64 0, .int .i64 0, .int .i64 0] 35)).heap.size = w.heap.size + 2 := by simp
  have HB2 := Lib.hid (HB0.out.trans (hN.1.mono HB0.out.size))
  have HQ1 := Lib.hid (HR1.out.below hN.1 HR1.out.lt)
  have HQ2 := Lib.hid (HR2.out.below hN.1 HR2.out.lt)
  have HP1 := Lib.hid (show w2.ownsRow (w.heap.size + 2) 35 3 (.slice (some ⟨g1, 0, none⟩) 8 8) 8 (flatSf N.pl) by rw [← hsz]; exact hN.2.1)
  have HP2 := Lib.hid (show w2.ownsRow (w.heap.size + 2) 3 1 (.slice (some ⟨g2, 0, none⟩) m2 c2) m2 (ints.intsV N.ps) by rw [← hsz]; exact hN.2.2.1)
  clear hN hsz HB0 HR1 HR2 HA
  obtain ⟨L, HLL⟩ : ∃ L, Hid (w2.heap.size = L) := ⟨_, Lib.hid rfl⟩
  obtain ⟨w3, HW3⟩ : ∃ V, Hid ((w2.alloc (.cells #[.int .i64 0, .int .i64 0, .int .i64 0] 35)).alloc (.cells #[.int .i64 0, .int .i64 0, .int .i64 0] 35) = V) := ⟨_, Lib.hid rfl⟩
  have HX3 := Lib.hid (show XS6 w L (L + 1) g1 g2 m2 c2 zero3 zero3 N w3 by
    rw [← HW3.out, ← HLL.out]
    have h := Blk.new (w2.alloc (.cells #[.int .i64 0, .int .i64 0, .int .i64 0] 35)) 35 #[.int .i64 0, .int .i64 0, .int .i64 0]
    rw [show (w2.alloc (.cells #[.int .i64 0, .int .i64 0, .int .i64 0] 35)).heap.size = w2.heap.size + 1 by simp] at h
    exact ⟨(HQ1.out.alloc _).alloc _, (HQ2.out.alloc _).alloc _, (Blk.new w2 _ _).alloc _, h, (HP1.out.alloc _).alloc _, (HP2.out.alloc _).alloc _, (HB2.out.alloc HB2.out.size _).alloc (by have := HB2.out.size; simp; omega) _, by have := HQ2.out.lt; omega, by omega, (HP1.out.lt g1 rfl).2, (HP2.out.lt g2 rfl).2⟩)
  go_upto_region 3 with fail
  try rw [HLL.out]
  try simp only [HLL.out]
  rw [HW3.out]
  clear HW3 HB2 HQ1 HQ2 HP1 HP2 HLL
  go_wp2_with fail
  go_loopw [9] (fun i wr => ∃ k : Nat, k ≤ m2 ∧ i = .int .i64 (k : Nat) ∧ XS6 w L (L + 1) g1 g2 m2 c2 (lowN N k) (highN N k) N wr) (fun i _ => m2 - (intOf i).toNat)
  case atStart => exact ⟨0, Nat.zero_le _, rfl, HX3.out⟩
  case round =>
    obtain ⟨k, hk, rfl, hX⟩ := hrel
    have HX := Lib.hid hX
    clear hX HX3
    have hk0 : (0 : Int) ≤ (k : Int) := by omega
    by_cases hlt : k < m2
    · obtain ⟨x, hx⟩ := at_lt HM2.out hlt
      have hxb := HON.out.2.2.1 x (List.mem_of_getElem? hx)
      obtain ⟨a, rfl⟩ : ∃ a : Nat, x = (a : Int) := ⟨x.toNat, by omega⟩
      have ha7 : a ≤ 7 := by omega
      have ha8 : (a : Int) < 8 := by omega
      have ha0 : (0 : Int) ≤ (a : Int) := by omega
      obtain ⟨p, HPP⟩ : ∃ p, Hid (at_ N.pl (a : Int) = p) := ⟨_, Lib.hid rfl⟩
      obtain ⟨l, HL⟩ : ∃ l, Hid (lowN N k = l) := ⟨_, Lib.hid rfl⟩
      obtain ⟨h, HH⟩ : ∃ h, Hid (highN N k = h) := ⟨_, Lib.hid rfl⟩
      obtain ⟨l2, HL2⟩ : ∃ l2, Hid (lo3 l p = l2) := ⟨_, Lib.hid rfl⟩
      obtain ⟨h2, HH2⟩ : ∃ h2, Hid (hi3 h p = h2) := ⟨_, Lib.hid rfl⟩
      have HLN := Lib.hid (show lowN N (k + 1) = l2 by rw [lowN_succ hx, HL.out, HPP.out, HL2.out])
      have HHN := Lib.hid (show highN N (k + 1) = h2 by rw [highN_succ hx, HH.out, HPP.out, HH2.out])
      rw [HL.out, HH.out] at HX
      have A0 := Lib.hid (show lst.mn l.east p.east = l2.east by rw [← HL2.out]; rfl)
      have A1 := Lib.hid (show lst.mn l.north p.north = l2.north by rw [← HL2.out]; rfl)
      have A2 := Lib.hid (show lst.mn l.up p.up = l2.up by rw [← HL2.out]; rfl)
      have B0 := Lib.hid (show mst.mx h.east p.east = h2.east by rw [← HH2.out]; rfl)
      have B1 := Lib.hid (show mst.mx h.north p.north = h2.north by rw [← HH2.out]; rfl)
      have B2 := Lib.hid (show mst.mx h.up p.up = h2.up by rw [← HH2.out]; rfl)
      have e0 : wr.cell? ⟨g2, k, none⟩ = some (.int .i64 (a : Int)) := by
        rw [HX.out.2.2.2.2.2.1.cellAt k (by omega)]
        simp [ints.intsV, hx]
      have ep : N.pl[a]? = some p := by
        rw [← HPP.out]; unfold at_
        rw [Int.toNat_natCast, List.getElem?_eq_getElem (by rw [HON.out.1]; omega)]; rfl
      obtain ⟨k0, k1, k2⟩ := flatSf_at N.pl a _ ep
      have u0 := (HX.out.2.2.2.2.1.cellAt (a * 3) (by omega)).trans k0
      have u1 := (HX.out.2.2.2.2.1.cellAt (a * 3 + 1) (by omega)).trans k1
      have u2 := (HX.out.2.2.2.2.1.cellAt (a * 3 + 2) (by omega)).trans k2
      clear hx hxb ep k0 k1 k2
      have hki : (k : Int) < (m2 : Int) := by omega
      have hkd : decide (k < m2) = true := by simpa using hlt
      go_upto_region 7 with fail
      obtain ⟨V1, HV1, HX1, HPB⟩ : ∃ V, Hid (wr.alloc (.cells #[.int .i64 p.east, .int .i64 p.north, .int .i64 p.up] 35) = V) ∧ Hid (XS6 w L (L + 1) g1 g2 m2 c2 l h N V) ∧ Hid (Blk V wr.heap.size 35 #[.int .i64 p.east, .int .i64 p.north, .int .i64 p.up]) := ⟨_, Lib.hid rfl, Lib.hid (HX.out.step ((Below.refl _ _).alloc (Nat.le_refl _) _)), Lib.hid (Blk.new _ _ _)⟩
      have HXL := Lib.hid (show wr.heap.size ≠ L ∧ wr.heap.size ≠ L + 1 by have h1 := HX.out.2.2.1.lt; have h2 := HX.out.2.2.2.1.lt; omega)
      obtain ⟨X, HXX⟩ : ∃ X, Hid (wr.heap.size = X) := ⟨_, Lib.hid rfl⟩
      rw [HXX.out] at HPB HXL
      rw [HV1.out]
      try simp only [HXX.out]
      clear HV1 HX e0 u0 u1 u2 HXX
      obtain ⟨p0, p1, p2, pf0, pf1, pf2, pl⟩ := box3 HPB.out
      obtain ⟨l0, l1, l2', lf0, lf1, lf2, ll⟩ := box3 HX1.out.2.2.1
      refine wp_region_still_tail 16 (by kernel_rfl) (by kernel_rfl) ?_
      simp only [List.take_succ_cons, List.take_zero, List.drop_succ_cons, List.drop_zero]
      repeat still_step
      still_call (lst.least_q l.east p.east l2.east A0 _)
      repeat still_step
      still_call (lst.least_q l.north p.north l2.north A1 _)
      repeat still_step
      still_call (lst.least_q l.up p.up l2.up A2 _)
      repeat still_step
      refine wpStill_nil ?_
      change wpList _ _ _ _ _ V1.drew
      clear p0 p1 p2 pf0 pf1 pf2 l0 l1 l2'
      obtain ⟨D1, HD1⟩ : ∃ V, Hid (V1.drew = V) := ⟨_, Lib.hid rfl⟩
      have HX1d := Lib.hid (show XS6 w L (L + 1) g1 g2 m2 c2 l h N D1 by rw [← HD1.out]; exact HX1.out.step (Below.refl _ _).drew)
      have HPBd := Lib.hid (show Blk D1 X 35 #[.int .i64 p.east, .int .i64 p.north, .int .i64 p.up] by rw [← HD1.out]; exact HPB.out.below (Below.refl _ _).drew pl)
      rw [HD1.out]
      clear HD1
      obtain ⟨t0, t1, t2, lg0, lg1, lg2, lg⟩ := box3 HX1d.out.2.2.1
      clear lf0 lf1 lf2 ll pl HX1 HPB
      go_upto_region 8 with fail
      obtain ⟨V2, HV2⟩ : ∃ V, Hid ((((D1.setCell ⟨L, 0, none⟩ (.int .i64 l2.east)).setCell ⟨L, 1, none⟩ (.int .i64 l2.north)).setCell ⟨L, 2, none⟩ (.int .i64 l2.up)) = V) := ⟨_, Lib.hid rfl⟩
      have HX2 := Lib.hid (show XS6 w L (L + 1) g1 g2 m2 c2 l2 h N V2 by rw [← HV2.out]; exact HX1d.out.low l2)
      have HPB2 := Lib.hid (show Blk V2 X 35 #[.int .i64 p.east, .int .i64 p.north, .int .i64 p.up] by rw [← HV2.out]; exact ((HPBd.out.far HXL.out.1 _).far HXL.out.1 _).far HXL.out.1 _)
      rw [HV2.out]
      clear HV2 HX1d HPBd t0 t1 t2 lg0 lg1 lg2 lg
      obtain ⟨p0, p1, p2, pf0, pf1, pf2, pl⟩ := box3 HPB2.out
      obtain ⟨l0, l1, l2', lf0, lf1, lf2, ll⟩ := box3 HX2.out.2.2.2.1
      refine wp_region_still_tail 16 (by kernel_rfl) (by kernel_rfl) ?_
      simp only [List.take_succ_cons, List.take_zero, List.drop_succ_cons, List.drop_zero]
      repeat still_step
      still_call (most_q h.east p.east h2.east B0 _)
      repeat still_step
      still_call (most_q h.north p.north h2.north B1 _)
      repeat still_step
      still_call (most_q h.up p.up h2.up B2 _)
      repeat still_step
      refine wpStill_nil ?_
      change wpList _ _ _ _ _ V2.drew
      clear p0 p1 p2 pf0 pf1 pf2 l0 l1 l2'
      obtain ⟨D2, HD2⟩ : ∃ V, Hid (V2.drew = V) := ⟨_, Lib.hid rfl⟩
      have HX2d := Lib.hid (show XS6 w L (L + 1) g1 g2 m2 c2 l2 h N D2 by rw [← HD2.out]; exact HX2.out.step (Below.refl _ _).drew)
      rw [HD2.out]
      clear HD2
      obtain ⟨t0, t1, t2, lg0, lg1, lg2, lg⟩ := box3 HX2d.out.2.2.2.1
      have HX3' := Lib.hid (HX2d.out.high h2)
      clear lf0 lf1 lf2 ll pl HX2 HPB2
      go_wp2_with fail
      go_roundw
      case rel => exact ⟨k + 1, by omega, by go_num, by rw [HLN.out, HHN.out]; exact HX3'.out⟩
      case measure => simp [intOf]; omega
    · have hkd : decide (k < m2) = false := by simpa using hlt
      obtain rfl : m2 = k := by omega
      rw [HLO.out, HHI.out] at HX
      obtain ⟨t0, t1, t2, lg0, lg1, lg2, lg⟩ := box3 HX.out.2.2.1
      obtain ⟨y0, y1, y2, hg0, hg1, hg2, hhg⟩ := box3 HX.out.2.2.2.1
      obtain ⟨r0, r1, r2, rf0, rf1, rf2, rl⟩ := box0 HX.out.1
      obtain ⟨s0, s1, s2, sf0, sf1, sf2, sl⟩ := box0 HX.out.2.1
      have hL := HX.out.2.2.2.2.2.2.2
      clear hlt
      go_wp2_with fail
      go_region
      go_wp2_with fail
      have hb := Lib.hid HX.out.2.2.2.2.2.2.1
      have HQ1 := Lib.hid HX.out.1
      have HQ2 := Lib.hid HX.out.2.1
      obtain ⟨Z, HZ, HZ1, HZ2, HZ3⟩ : ∃ Z, Hid ((((((((wr.setCell ⟨w.heap.size, 0, none⟩ (.int .i64 lo.east)).setCell ⟨w.heap.size, 1, none⟩ (.int .i64 lo.north)).setCell ⟨w.heap.size, 2, none⟩ (.int .i64 lo.up)).setCell ⟨(w.heap.size + 1), 0, none⟩ (.int .i64 hi.east)).setCell ⟨(w.heap.size + 1), 1, none⟩ (.int .i64 hi.north)).setCell ⟨(w.heap.size + 1), 2, none⟩ (.int .i64 hi.up))).drew = Z) ∧ Hid (Blk Z w.heap.size 35 #[.int .i64 lo.east, .int .i64 lo.north, .int .i64 lo.up]) ∧ Hid (Blk Z (w.heap.size + 1) 35 #[.int .i64 hi.east, .int .i64 hi.north, .int .i64 hi.up]) ∧ Hid (Below w.heap.size w Z) := by
        have n1 : w.heap.size ≠ w.heap.size + 1 := by omega
        have n2 : w.heap.size + 1 ≠ w.heap.size := by omega
        have q1 := ((((((HQ1.out.set_ 0 (.int .i64 lo.east)).set_ 1 (.int .i64 lo.north)).set_ 2 (.int .i64 lo.up)).far (p := ⟨w.heap.size + 1, 0, none⟩) n1 (.int .i64 hi.east)).far (p := ⟨w.heap.size + 1, 1, none⟩) n1 (.int .i64 hi.north)).far (p := ⟨w.heap.size + 1, 2, none⟩) n1 (.int .i64 hi.up))
        have q2 := ((((((HQ2.out.far (p := ⟨w.heap.size, 0, none⟩) n2 (.int .i64 lo.east)).far (p := ⟨w.heap.size, 1, none⟩) n2 (.int .i64 lo.north)).far (p := ⟨w.heap.size, 2, none⟩) n2 (.int .i64 lo.up)).set_ 0 (.int .i64 hi.east)).set_ 1 (.int .i64 hi.north)).set_ 2 (.int .i64 hi.up))
        have q3 := ((((((hb.out.setCell (p := ⟨w.heap.size, 0, none⟩) (by show _ ≤ w.heap.size; omega) (.int .i64 lo.east)).setCell (p := ⟨w.heap.size, 1, none⟩) (by show _ ≤ w.heap.size; omega) (.int .i64 lo.north)).setCell (p := ⟨w.heap.size, 2, none⟩) (by show _ ≤ w.heap.size; omega) (.int .i64 lo.up)).setCell (p := ⟨w.heap.size + 1, 0, none⟩) (by show _ ≤ w.heap.size + 1; omega) (.int .i64 hi.east)).setCell (p := ⟨w.heap.size + 1, 1, none⟩) (by show _ ≤ w.heap.size + 1; omega) (.int .i64 hi.north)).setCell (p := ⟨w.heap.size + 1, 2, none⟩) (by show _ ≤ w.heap.size + 1; omega) (.int .i64 hi.up))
        exact ⟨_, Lib.hid rfl, Lib.hid (q1.below (Below.refl _ _).drew q1.lt), Lib.hid (q2.below (Below.refl _ _).drew q2.lt), Lib.hid q3.drew⟩
      rw [HZ.out]
      clear HZ HX HQ1 HQ2 hb
      obtain ⟨c0, c1, c2, cf0, cf1, cf2, cl⟩ := box3 HZ1.out
      obtain ⟨d0, d1, d2, df0, df1, df2, dl⟩ := box3 HZ2.out
      exact bodyPost_ret (v := .tuple #[.agg #[.int .i64 lo.east, .int .i64 lo.north, .int .i64 lo.up], .agg #[.int .i64 hi.east, .int .i64 hi.north, .int .i64 hi.up]]) (by simp [results, Tryd.results67, go_sem, c0, c1, c2, d0, d1, d2]) rfl ⟨rfl, HZ3.out⟩
#print axioms extent_any
end Go.Proofs.YtnoieboiklmkaaaDoor.nt
