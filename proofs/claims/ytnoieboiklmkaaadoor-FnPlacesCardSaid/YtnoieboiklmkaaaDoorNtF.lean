/-
  The stations within a distance, by the model.
  Conditions: the legs lie in one block; at most 2000000 of them.
-/
import Derived.Test.YtnoieboiklmkaaaDoorNtE
import Derived.Test.YtnoieboiklmkaaaDoorLen
import Derived.Deep.RegionHeld3
import Derived.Deep.DeepCutAuto
namespace Go.Proofs.YtnoieboiklmkaaaDoor.nt
open Go.RowKit
open reads base ty lg rowi hs
set_option linter.unusedVariables false
set_option linter.unusedSimpArgs false

def sq3 (d : Sf) : Int := d.east * d.east + d.north * d.north + d.up * d.up
/-- whether a station is within a distance of another one -/
def near (s : Net) (q ds x : Int) : Bool := decide (sq3 (sub3 (at_ s.pl x) (at_ s.pl q)) < (ds + 1) * (ds + 1))
theorem near_iff {S r ds : Int} (h : len.IsRoot S r) (hle : r ≤ ds) (hd : 0 ≤ ds) : decide (S < (ds + 1) * (ds + 1)) = true := by
  have h1 := len.sq_mono (show 0 ≤ r + 1 by have := h.1; omega) (show r + 1 ≤ ds + 1 by omega)
  have h2 := h.2.2
  simp; omega
theorem near_not {S r ds : Int} (h : len.IsRoot S r) (hle : ¬ r ≤ ds) (hd : 0 ≤ ds) : decide (S < (ds + 1) * (ds + 1)) = false := by
  have h1 := len.sq_mono (show 0 ≤ ds + 1 by omega) (show ds + 1 ≤ r by omega)
  have h2 := h.2.1
  simp; omega
def wdN (s : Net) (q ds : Int) : Nat → List Int
  | 0 => []
  | k + 1 => match s.ps[k]? with
    | some x => if near s q ds x then wdN s q ds k ++ [x] else wdN s q ds k
    | none => wdN s q ds k
theorem wdN_yes {s : Net} {q ds : Int} {k : Nat} {x : Int} (h : s.ps[k]? = some x) (hn : near s q ds x = true) : wdN s q ds (k + 1) = wdN s q ds k ++ [x] := by
  show (match s.ps[k]? with | some x => _ | none => _) = _
  rw [h]; simp only [hn]; rfl
theorem wdN_no {s : Net} {q ds : Int} {k : Nat} {x : Int} (h : s.ps[k]? = some x) (hn : near s q ds x = false) : wdN s q ds (k + 1) = wdN s q ds k := by
  show (match s.ps[k]? with | some x => _ | none => _) = _
  rw [h]; simp only [hn]; rfl
def wdOk (ts : List Lg) (q ds : Int) : Bool := has6 ts q && decide (0 ≤ ds)
def wdIds (ts : List Lg) (q ds : Int) : List Int := if wdOk ts q ds then wdN (net ts) q ds (net ts).ps.length else []
/-- what a region of reads keeps -/
def WS (g1 g2 k a qn : Nat) (p q : Sf) (v : World) : Prop :=
  v.cell? ⟨g2, k, none⟩ = some (.int .i64 (a : Int)) ∧ (v.cell? ⟨g1, a * 3, none⟩ = some (.int .i64 p.east) ∧ v.cell? ⟨g1, a * 3 + 1, none⟩ = some (.int .i64 p.north) ∧ v.cell? ⟨g1, a * 3 + 2, none⟩ = some (.int .i64 p.up)) ∧ (v.cell? ⟨g1, qn * 3, none⟩ = some (.int .i64 q.east) ∧ v.cell? ⟨g1, qn * 3 + 1, none⟩ = some (.int .i64 q.north) ∧ v.cell? ⟨g1, qn * 3 + 2, none⟩ = some (.int .i64 q.up)) ∧ g1 < v.heap.size ∧ g2 < v.heap.size
section
variable {g1 g2 k a qn : Nat} {p q : Sf} {v v' : World}
theorem WS.step (h : WS g1 g2 k a qn p q v) (hb : Below v.heap.size v v') : WS g1 g2 k a qn p q v' := by
  obtain ⟨e, ⟨p0, p1, p2⟩, ⟨q0, q1, q2⟩, l1, l2⟩ := h
  have A : ∀ o, v'.cell? ⟨g1, o, none⟩ = v.cell? ⟨g1, o, none⟩ := fun o => hb.cell (p := ⟨g1, o, none⟩) l1
  have hs := hb.size
  exact ⟨(hb.cell (p := ⟨g2, k, none⟩) l2).trans e, ⟨(A _).trans p0, (A _).trans p1, (A _).trans p2⟩, ⟨(A _).trans q0, (A _).trans q1, (A _).trans q2⟩, by omega, by omega⟩
theorem WS.set (h : WS g1 g2 k a qn p q v) {X : Nat} (hX : ¬ X = g1 ∧ ¬ X = g2) (i : Nat) (u : Value) : WS g1 g2 k a qn p q (v.setCell ⟨X, i, none⟩ u) := by
  obtain ⟨e, ⟨p0, p1, p2⟩, ⟨q0, q1, q2⟩, l1, l2⟩ := h
  have A : ∀ o, (v.setCell ⟨X, i, none⟩ u).cell? ⟨g1, o, none⟩ = v.cell? ⟨g1, o, none⟩ := fun o => World.cell?_setCell_other _ _ _ _ (by intro e; injection e with e1; exact hX.1 e1)
  exact ⟨(World.cell?_setCell_other _ _ _ _ (by intro e; injection e with e1; exact hX.2 e1)).trans e, ⟨(A _).trans p0, (A _).trans p1, (A _).trans p2⟩, ⟨(A _).trans q0, (A _).trans q1, (A _).trans q2⟩, by simpa [World.setCell] using l1, by simpa [World.setCell] using l2⟩
theorem WS.mk7 (h : WS g1 g2 k a qn p q v) : v.cell? ⟨g2, k, none⟩ = some (.int .i64 (a : Int)) ∧ v.cell? ⟨g1, a * 3, none⟩ = some (.int .i64 p.east) ∧ v.cell? ⟨g1, a * 3 + 1, none⟩ = some (.int .i64 p.north) ∧ v.cell? ⟨g1, a * 3 + 2, none⟩ = some (.int .i64 p.up) ∧ v.cell? ⟨g1, qn * 3, none⟩ = some (.int .i64 q.east) ∧ v.cell? ⟨g1, qn * 3 + 1, none⟩ = some (.int .i64 q.north) ∧ v.cell? ⟨g1, qn * 3 + 2, none⟩ = some (.int .i64 q.up) ∧ WS g1 g2 k a qn p q v :=
  ⟨h.1, h.2.1.1, h.2.1.2.1, h.2.1.2.2, h.2.2.1.1, h.2.2.1.2.1, h.2.2.1.2.2, h⟩
end
/-- what is live while stations are gathered: what the net lies in (below a world W), the list so far -/
def FS (w v : World) (g1 g2 m2 c2 : Nat) (W : World) (A2 : Option Addr) (m c : Nat) (xs : List Int × Net) : Prop :=
  Below w.heap.size w v ∧ (w.heap.size < g1 ∧ w.heap.size < g2) ∧ v.ownsRow (w.heap.size + 1) 35 3 (.slice (some ⟨g1, 0, none⟩) 8 8) 8 (flatSf xs.2.pl) ∧ v.ownsRow (w.heap.size + 1) 3 1 (.slice (some ⟨g2, 0, none⟩) m2 c2) m2 (ints.intsV xs.2.ps) ∧ v.ownsRow w.heap.size 3 1 (.slice A2 m c) m (ints.intsV xs.1) ∧ (∀ g, (Value.slice A2 m c).ownBlock = some g → ¬ g = g1 ∧ ¬ g = g2)
section
variable {w v v' W : World} {g1 g2 m2 c2 : Nat} {A2 : Option Addr} {m c : Nat} {xs : List Int × Net}
theorem FS.step (h : FS w v g1 g2 m2 c2 W A2 m c xs) (hb : Below v.heap.size v v') : FS w v' g1 g2 m2 c2 W A2 m c xs :=
  ⟨h.1.trans (hb.mono h.1.size), h.2.1, row_below h.2.2.1 hb, row_below h.2.2.2.1 hb, row_below h.2.2.2.2.1 hb, h.2.2.2.2.2⟩
theorem FS.own (h : FS w v g1 g2 m2 c2 W A2 m c xs) : v.ownsRow w.heap.size 3 1 (.slice A2 m c) m (ints.intsV xs.1) := h.2.2.2.2.1
theorem FS.size (h : FS w v g1 g2 m2 c2 W A2 m c xs) : w.heap.size ≤ v.heap.size := h.1.size
theorem FS.lts (h : FS w v g1 g2 m2 c2 W A2 m c xs) : ¬ v.heap.size = g1 ∧ ¬ v.heap.size = g2 := by have h1 := (h.2.2.1.lt g1 rfl).2; have h2 := (h.2.2.2.1.lt g2 rfl).2; omega
theorem FS.lto (h : FS w v g1 g2 m2 c2 W A2 m c xs) : w.heap.size ≤ v.heap.size ∧ ∀ g, (Value.slice A2 m c).ownBlock = some g → ¬ g = v.heap.size := ⟨h.1.size, fun g e => by have := (h.2.2.2.2.1.lt g e).2; omega⟩
theorem FS.cell (h : FS w v g1 g2 m2 c2 W A2 m c xs) (hl : xs.2.ps.length = m2) {k : Nat} {y : Int} (hk : k < m2) (hy : xs.2.ps[k]? = some y) : v.cell? ⟨g2, k, none⟩ = some (.int .i64 y) := by
  rw [h.2.2.2.1.cellAt k (by omega)]
  simp [ints.intsV, hy]
theorem far_row {X : Nat} {bs size n : Nat} {e : TypeId} {u : Value} {ys : List Value} (h : v.ownsRow bs e size u n ys) (hne : ∀ g, u.ownBlock = some g → ¬ g = X) (i : Nat) (y : Value) : (v.setCell ⟨X, i, none⟩ y).ownsRow bs e size u n ys :=
  h.kept (row := some X) ⟨rfl, rfl, rfl, by simp [World.setCell], fun j hj hn => Below.heap_setCell v ⟨X, i, none⟩ y j (by rintro rfl; exact hn rfl)⟩ (by
    cases q : u.ownBlock with
    | none => exact .inl rfl
    | some g => exact .inr (fun e => by injection e with e; exact hne g q e))
theorem FS.far (h : FS w v g1 g2 m2 c2 W A2 m c xs) {X : Nat} (hX : w.heap.size ≤ X ∧ ∀ g, (Value.slice A2 m c).ownBlock = some g → ¬ g = X) (hn : ¬ X = g1 ∧ ¬ X = g2) (i : Nat) (u : Value) : FS w (v.setCell ⟨X, i, none⟩ u) g1 g2 m2 c2 W A2 m c xs :=
  ⟨h.1.setCell hX.1 u, h.2.1, far_row h.2.2.1 (fun g e => by have e2 : g1 = g := by simpa [Value.ownBlock] using e
                                                             omega) i u, far_row h.2.2.2.1 (fun g e => by have e2 : g2 = g := by simpa [Value.ownBlock] using e
                                                                                                          omega) i u, far_row h.2.2.2.2.1 hX.2 i u, h.2.2.2.2.2⟩
theorem FS.app (h : FS w v g1 g2 m2 c2 W A2 m c xs) {g9 c9 : Nat} {a : Int} {o : Obj} (ho : v'.ownsRow w.heap.size 3 1 (.slice (some ⟨g9, 0, none⟩) (m + 1) c9) (m + 1) (ints.intsV xs.1 ++ [.int .i64 a])) (hg : (v.alloc o).grownBy v' (Value.slice A2 m c).ownBlock) (hat : (Value.slice A2 m c).ownBlock = some g9 ∨ g9 = (v.alloc o).heap.size) :
    FS w v' g1 g2 m2 c2 W (some ⟨g9, 0, none⟩) (m + 1) c9 (xs.1 ++ [a], xs.2) := by
  have ha := h.step ((Below.refl v.heap.size v).alloc (Nat.le_refl _) o)
  have l1 := (h.2.2.1.lt g1 rfl).2
  have l2 := (h.2.2.2.1.lt g2 rfl).2
  refine ⟨ha.1.grown hg ha.1.size (fun g e => (h.2.2.2.2.1.lt g e).1), h.2.1, ha.2.2.1.kept hg (.inr (fun e => (h.2.2.2.2.2 g1 e.symm).1 rfl)), ha.2.2.2.1.kept hg (.inr (fun e => (h.2.2.2.2.2 g2 e.symm).2 rfl)), by rw [intsV_app]; exact ho, ?_⟩
  intro g e
  have e2 : g9 = g := by simpa [Value.ownBlock] using e
  subst e2
  rcases hat with q | q
  · exact h.2.2.2.2.2 g9 q
  · simp at q; omega
end
theorem len_is (d : Sf) (r : Int) (hd : Hid ((-100000 ≤ d.east ∧ d.east ≤ 100000) ∧ (-100000 ≤ d.north ∧ d.north ≤ 100000) ∧ (-100000 ≤ d.up ∧ d.up ≤ 100000))) (hr : Hid (len.IsRoot (sq3 d) r)) (w : World) : Calls Tryd.prog 71 #[.int .i64 d.east, .int .i64 d.north, .int .i64 d.up] w (APost (.tuple #[.int .i64 r, .bool true]) w) :=
  (len.lengthOf_model d.east d.north d.up w).mono fun e w' hh => by
    rcases hh.1 with ⟨-, q, hq, rfl⟩ | ⟨a, -⟩
    · exact ⟨by rw [len.root_uniq hq hr.out], hh.2⟩
    · exact absurd hd.out a
theorem has_root : ∀ n : Nat, ∃ r : Int, len.IsRoot (n : Int) r
  | 0 => ⟨0, by decide, by decide, by decide⟩
  | n + 1 => by
    obtain ⟨r, h0, h1, h2⟩ := has_root n
    by_cases h : ((n + 1 : Nat) : Int) < (r + 1) * (r + 1)
    · exact ⟨r, h0, by push_cast; omega, h⟩
    · refine ⟨r + 1, by omega, by omega, ?_⟩
      have e : (r + 1 + 1) * (r + 1 + 1) = (r + 1) * (r + 1) + 2 * r + 3 := by
        rw [Int.mul_add, Int.add_mul]; omega
      rw [e]; push_cast; omega
theorem root_of (d : Sf) : ∃ r, len.IsRoot (sq3 d) r := by
  have h0 : 0 ≤ sq3 d := by
    have sq : ∀ a : Int, 0 ≤ a * a := fun a => by
      rcases Int.le_total 0 a with k | k
      · exact Int.mul_nonneg k k
      · have := Int.mul_nonneg (show 0 ≤ -a by omega) (show 0 ≤ -a by omega)
        rw [Int.neg_mul_neg] at this; exact this
    have a := sq d.east; have b := sq d.north; have c := sq d.up
    unfold sq3; omega
  obtain ⟨r, hr⟩ := has_root (sq3 d).toNat
  exact ⟨r, by rwa [Int.toNat_of_nonneg h0] at hr⟩
set_option maxHeartbeats 16000000 in
set_option maxRecDepth 100000 in
theorem within_model (A : Option Addr) (n cap : Nat) (ts : List Lg) (q0 ds : Int) (w : World) (hn : n ≤ 2000000) (hts : Hid (LgAt w w.heap.size A n ts)) :
    Calls Tryd.prog 38 #[.slice A n cap, .int .i64 q0, .int .i64 ds] w (LPost (wdIds ts q0 ds) (wdOk ts q0 ds) w) := by
  obtain ⟨i0, hi, hz0, hz1, hz2⟩ := info_parts infoI
  have HA := Lib.hid (hts.out.alloc (.cells #[] 3))
  have HR0 := Lib.hid (show (w.alloc (.cells #[] 3)).ownsRow w.heap.size 3 1 (.slice (some ⟨w.heap.size, 0, none⟩) 0 0) 0 [] from World.ownsRow_made w #[] 0 (Nat.le_refl _) (by decide) (by simp))
  have HB0 := Lib.hid ((Below.refl w.heap.size w).alloc (Nat.le_refl _) (.cells #[] 3))
  cases hh : has6 ts q0
  · have HH := Lib.hid hh
    have HF := Lib.hid (show wdIds ts q0 ds = [] ∧ wdOk ts q0 ds = false by unfold wdIds wdOk; rw [hh]; exact ⟨rfl, rfl⟩)
    clear hh
    go_enter Tryd.func38, Tryd.ntmps38
    go_wp2_with fail
    refine (has6_any A n cap ts q0 false _ HH hn HA).mono ?_
    rintro e w1 ⟨rfl, b1⟩
    have HB1 := Lib.hid (HB0.out.trans (b1.mono HB0.out.size))
    have HR1 := Lib.hid (row_below HR0.out b1)
    clear b1
    go_wp2_with fail
    go_ret2
    exact ⟨_, by rw [HF.out.2]; rfl, by rw [HF.out.1]; exact HR1.out, HB1.out⟩
  by_cases hds : 0 ≤ ds
  · have HH := Lib.hid hh
    have hdd : decide (ds < 0) = false := by simp; omega
    obtain ⟨N, HNN⟩ : ∃ N, Hid (net ts = N) := ⟨_, Lib.hid rfl⟩
    obtain ⟨hg, hm⟩ : goodLg ts = true ∧ mem (net ts).ps q0 = true := by unfold has6 at hh; rwa [Bool.and_eq_true] at hh
    have HG := Lib.hid hg
    have HON := Lib.hid (show Ok N by rw [← HNN.out]; exact ok_net hg)
    have hq := HON.out.2.2.1 q0 (by rw [← HNN.out]; exact mem_iff.1 hm)
    obtain ⟨m2, HM2⟩ : ∃ m, Hid (N.ps.length = m) := ⟨_, Lib.hid rfl⟩
    have HF := Lib.hid (show wdIds ts q0 ds = wdN N q0 ds m2 ∧ wdOk ts q0 ds = true by
      have e : wdOk ts q0 ds = true := by unfold wdOk; rw [hh]; simpa using hds
      unfold wdIds; rw [e, HNN.out, HM2.out]; exact ⟨rfl, rfl⟩)
    have hp8 : m2 ≤ 8 := by rw [← HM2.out]; exact HON.out.ps_len
    obtain ⟨qn, rfl⟩ : ∃ a : Nat, q0 = (a : Int) := ⟨q0.toNat, by omega⟩
    have hq7 : qn ≤ 7 := by omega
    have hq8 : (qn : Int) < 8 := by omega
    have hq0 : (0 : Int) ≤ (qn : Int) := by omega
    clear hh hg hm hq
    go_enter Tryd.func38, Tryd.ntmps38
    go_wp2_with fail
    refine (has6_any A n cap ts (qn : Int) true _ HH hn HA).mono ?_
    rintro e w1 ⟨rfl, b1⟩
    have HB1 := Lib.hid (HB0.out.trans (b1.mono HB0.out.size))
    have HR1 := Lib.hid (row_below HR0.out b1)
    have HA1 := Lib.hid (HA.out.step b1)
    have hs1 : w.heap.size + 1 ≤ w1.heap.size := by have := b1.size; simpa using this
    clear b1 HB0 HR0 HA
    go_wp2_with fail
    refine (place_any A n cap ts _ HG HA1).mono ?_
    rintro e w2 ⟨g1, g2, c2, g3, c3, rfl, hN⟩
    rw [HNN.out] at hN ⊢
    rw [HM2.out] at hN ⊢
    have HFS0 := Lib.hid (show FS w w2 g1 g2 m2 c2 w2 (some ⟨w.heap.size, 0, none⟩) 0 0 ([], N) from
      ⟨HB1.out.trans (hN.1.mono HB1.out.size), by have h1 := (hN.2.1.lt g1 rfl).1; have h2 := (hN.2.2.1.lt g2 rfl).1; omega, own_mono hN.2.1 hs1, own_mono hN.2.2.1 hs1, row_below HR1.out hN.1, fun g e => by
        have h1 := (hN.2.1.lt g1 rfl).1; have h2 := (hN.2.2.1.lt g2 rfl).1
        have e2 : w.heap.size = g := by simpa [Value.ownBlock] using e
        omega⟩)
    clear hN HB1 HR1 HA1
    obtain ⟨W, HWW⟩ : ∃ W, Hid (w2 = W) := ⟨_, Lib.hid rfl⟩
    obtain ⟨q, HQQ⟩ : ∃ q, Hid (at_ N.pl (qn : Int) = q) := ⟨_, Lib.hid rfl⟩
    have HBQ := Lib.hid (show BdS q by rw [← HQQ.out]; exact bd_at HON.out _)
    go_wp2_with fail
    go_loopw [8, 12] (fun v i wr => ∃ (k m c : Nat) (A2 : Option Addr), k ≤ m2 ∧ i = .int .i64 (k : Nat) ∧ m ≤ k ∧ v = .slice A2 m c ∧ Hid ((wdN N (qn : Int) ds k).length = m) ∧ FS w wr g1 g2 m2 c2 W A2 m c (wdN N (qn : Int) ds k, N)) (fun _ i _ => m2 - (intOf i).toNat)
    case atStart => exact ⟨0, 0, 0, _, Nat.zero_le _, rfl, Nat.le_refl _, rfl, Lib.hid rfl, by have h := HFS0.out; rwa [HWW.out] at h ⊢⟩
    case round =>
      obtain ⟨k, m, c, A2, hk, rfl, hmk, rfl, HMX, hF⟩ := hrel
      obtain ⟨xs, HXS⟩ : ∃ xs, Hid ((wdN N (qn : Int) ds k, N) = xs) := ⟨_, Lib.hid rfl⟩
      have HFS := Lib.hid (show FS w wr g1 g2 m2 c2 W A2 m c (wdN N (qn : Int) ds k, N) from hF)
      clear hF HFS0 HXS xs
      have hk0 : (0 : Int) ≤ (k : Int) := by omega
      by_cases hlt : k < m2
      · obtain ⟨x, hx⟩ := at_lt HM2.out hlt
        have hxb := HON.out.2.2.1 x (List.mem_of_getElem? hx)
        obtain ⟨a, rfl⟩ : ∃ a : Nat, x = (a : Int) := ⟨x.toNat, by omega⟩
        have ha7 : a ≤ 7 := by omega
        have ha8 : (a : Int) < 8 := by omega
        have ha0 : (0 : Int) ≤ (a : Int) := by omega
        have HQ := Lib.hid hx
        have e0 := HFS.out.cell HM2.out hlt hx
        obtain ⟨p, HPP⟩ : ∃ p, Hid (at_ N.pl (a : Int) = p) := ⟨_, Lib.hid rfl⟩
        obtain ⟨d, HDD⟩ : ∃ d, Hid (sub3 p q = d) := ⟨_, Lib.hid rfl⟩
        have HBP := Lib.hid (show BdS p by rw [← HPP.out]; exact bd_at HON.out _)
        have HDB := Lib.hid (show (-100000 ≤ d.east ∧ d.east ≤ 100000) ∧ (-100000 ≤ d.north ∧ d.north ≤ 100000) ∧ (-100000 ≤ d.up ∧ d.up ≤ 100000) by
          have h1 := at_bd HON.out (a : Int)
          have h2 := at_bd HON.out (qn : Int)
          rw [HPP.out, HM2.out] at h1
          rw [HQQ.out, HM2.out] at h2
          rw [← HDD.out]; unfold sub3; simp only []; omega)
        obtain ⟨r, hr⟩ := root_of d
        have HRT := Lib.hid hr
        clear hr
        have CE := fun (s : Nat) (hs : s ≤ 7) => (show ∀ z : Sf, at_ N.pl (s : Int) = z → wr.cell? ⟨g1, s * 3, none⟩ = some (.int .i64 z.east) ∧ wr.cell? ⟨g1, s * 3 + 1, none⟩ = some (.int .i64 z.north) ∧ wr.cell? ⟨g1, s * 3 + 2, none⟩ = some (.int .i64 z.up) from fun z hz => by
          have e : N.pl[s]? = some z := by
            rw [← hz]; unfold at_
            rw [Int.toNat_natCast, List.getElem?_eq_getElem (by rw [HON.out.1]; omega)]; rfl
          obtain ⟨k0, k1, k2⟩ := flatSf_at N.pl s _ e
          exact ⟨(HFS.out.2.2.1.cellAt _ (by omega)).trans k0, (HFS.out.2.2.1.cellAt _ (by omega)).trans k1, (HFS.out.2.2.1.cellAt _ (by omega)).trans k2⟩)
        obtain ⟨u0, u1, u2⟩ := CE a ha7 p HPP.out
        obtain ⟨v0, v1, v2⟩ := CE qn hq7 q HQQ.out
        have HWS := Lib.hid (show WS g1 g2 k a qn p q wr from ⟨e0, ⟨u0, u1, u2⟩, ⟨v0, v1, v2⟩, (HFS.out.2.2.1.lt g1 rfl).2, (HFS.out.2.2.2.1.lt g2 rfl).2⟩)
        clear CE hx hxb
        have hki : (k : Int) < (m2 : Int) := by omega
        have hkd : decide (k < m2) = true := by simpa using hlt
        go_upto_region 8 with fail
        refine wp_region_held_drew (S := (fun v => v.cell? ⟨g2, k, none⟩ = some (.int .i64 (a : Int)) ∧ v.cell? ⟨g1, a * 3, none⟩ = some (.int .i64 p.east) ∧ v.cell? ⟨g1, a * 3 + 1, none⟩ = some (.int .i64 p.north) ∧ v.cell? ⟨g1, a * 3 + 2, none⟩ = some (.int .i64 p.up) ∧ v.cell? ⟨g1, qn * 3, none⟩ = some (.int .i64 q.east) ∧ v.cell? ⟨g1, qn * 3 + 1, none⟩ = some (.int .i64 q.north) ∧ v.cell? ⟨g1, qn * 3 + 2, none⟩ = some (.int .i64 q.up) ∧ WS g1 g2 k a qn p q v)) (by kernel_rfl) ?_ (fun hHeld => ?_)
        · exact (HWS.out.step (Below.refl _ _).drew).mk7
        obtain ⟨V0, HV0⟩ : ∃ V, Hid (wr.drew = V) := ⟨_, Lib.hid rfl⟩
        have HL0 := Lib.hid (show FS w V0 g1 g2 m2 c2 W A2 m c (wdN N (qn : Int) ds k, N) by rw [← HV0.out]; exact HFS.out.step (Below.refl _ _).drew)
        rw [HV0.out] at hHeld ⊢
        clear HV0 HFS e0 u0 u1 u2 v0 v1 v2
        refine' wpAnyH_take (i := 0) (v := ?vw1_0) rfl (by kernel_rfl) (by kernel_rfl) (by kernel_rfl) (fun _ _ _ h => h) (Or.inl ⟨by rfl, ?hyw1_0⟩) (by assumption) ?restw1_0
        case hyw1_0 => (intro w hSw; (try dsimp only at hSw); go_simp; try (with_reducible rfl))
        simp only [Act.put, List.getElem_toArray, List.getElem_cons_succ, List.getElem_cons_zero, List.setIfInBounds_toArray, List.set_cons_zero, List.set_cons_succ]
        refine' wpAnyH_take (i := 1) (v := ?vw2_1) rfl (by kernel_rfl) (by kernel_rfl) (by kernel_rfl) (fun _ _ _ h => h) (Or.inl ⟨by rfl, ?hyw2_1⟩) (by assumption) ?restw2_1
        case hyw2_1 => (intro w hSw; (try dsimp only at hSw); go_simp; try (with_reducible rfl))
        simp only [Act.put, List.getElem_toArray, List.getElem_cons_succ, List.getElem_cons_zero, List.setIfInBounds_toArray, List.set_cons_zero, List.set_cons_succ]
        refine' wpAnyH_take (i := 2) (v := ?vw3_2) rfl (by kernel_rfl) (by kernel_rfl) (by kernel_rfl) (fun _ _ _ h => h) (Or.inl ⟨by rfl, ?hyw3_2⟩) (by assumption) ?restw3_2
        case hyw3_2 => (intro w hSw; (try dsimp only at hSw); go_simp; try (with_reducible rfl))
        simp only [Act.put, List.getElem_toArray, List.getElem_cons_succ, List.getElem_cons_zero, List.setIfInBounds_toArray, List.set_cons_zero, List.set_cons_succ]
        refine' wpAnyH_take (i := 3) (v := ?vw4_3) rfl (by kernel_rfl) (by kernel_rfl) (by kernel_rfl) (fun _ _ _ h => h) (Or.inl ⟨by rfl, ?hyw4_3⟩) (by assumption) ?restw4_3
        case hyw4_3 => (intro w hSw; (try dsimp only at hSw); go_simp; try (with_reducible rfl))
        simp only [Act.put, List.getElem_toArray, List.getElem_cons_succ, List.getElem_cons_zero, List.setIfInBounds_toArray, List.set_cons_zero, List.set_cons_succ]
        refine' wpAnyH_take (i := 4) (v := ?vw5_4) rfl (by kernel_rfl) (by kernel_rfl) (by kernel_rfl) (fun _ _ _ h => h) (Or.inl ⟨by rfl, ?hyw5_4⟩) (by assumption) ?restw5_4
        case hyw5_4 => (intro w hSw; (try dsimp only at hSw); go_simp; try (with_reducible rfl))
        simp only [Act.put, List.getElem_toArray, List.getElem_cons_succ, List.getElem_cons_zero, List.setIfInBounds_toArray, List.set_cons_zero, List.set_cons_succ]
        refine' wpAnyH_take (i := 5) (v := ?vw6_5) rfl (by kernel_rfl) (by kernel_rfl) (by kernel_rfl) (fun _ _ _ h => h) (Or.inl ⟨by rfl, ?hyw6_5⟩) (by assumption) ?restw6_5
        case hyw6_5 => (intro w hSw; (try dsimp only at hSw); go_simp; try (with_reducible rfl))
        simp only [Act.put, List.getElem_toArray, List.getElem_cons_succ, List.getElem_cons_zero, List.setIfInBounds_toArray, List.set_cons_zero, List.set_cons_succ]
        refine' wpAnyH_take (i := 6) (v := ?vw7_6) rfl (by kernel_rfl) (by kernel_rfl) (by kernel_rfl) (fun _ _ _ h => h) (Or.inl ⟨by rfl, ?hyw7_6⟩) (by assumption) ?restw7_6
        case hyw7_6 => (intro w hSw; (try dsimp only at hSw); go_simp; try (with_reducible rfl))
        simp only [Act.put, List.getElem_toArray, List.getElem_cons_succ, List.getElem_cons_zero, List.setIfInBounds_toArray, List.set_cons_zero, List.set_cons_succ]
        refine' wpAnyH_take (i := 7) (v := ?vw8_7) rfl (by kernel_rfl) (by kernel_rfl) (by kernel_rfl) (fun _ _ _ h => h) (Or.inl ⟨by rfl, ?hyw8_7⟩) (by assumption) ?restw8_7
        case hyw8_7 => (intro w hSw; (try dsimp only at hSw); go_simp; try (with_reducible rfl))
        simp only [Act.put, List.getElem_toArray, List.getElem_cons_succ, List.getElem_cons_zero, List.setIfInBounds_toArray, List.set_cons_zero, List.set_cons_succ]
        refine' wpAnyH_take (i := 8) (v := ?vw9_8) rfl (by kernel_rfl) (by kernel_rfl) (by kernel_rfl) (fun _ _ _ h => h) (Or.inl ⟨by rfl, ?hyw9_8⟩) (by assumption) ?restw9_8
        case hyw9_8 => (intro w hSw; (try dsimp only at hSw); go_simp; try (with_reducible rfl))
        simp only [Act.put, List.getElem_toArray, List.getElem_cons_succ, List.getElem_cons_zero, List.setIfInBounds_toArray, List.set_cons_zero, List.set_cons_succ]
        refine' wpAnyH_take (i := 9) (v := ?vw10_9) rfl (by kernel_rfl) (by kernel_rfl) (by kernel_rfl) (fun _ _ _ h => h) (Or.inl ⟨by rfl, ?hyw10_9⟩) (by assumption) ?restw10_9
        case hyw10_9 => (intro w hSw; (try dsimp only at hSw); go_simp; try (with_reducible rfl))
        simp only [Act.put, List.getElem_toArray, List.getElem_cons_succ, List.getElem_cons_zero, List.setIfInBounds_toArray, List.set_cons_zero, List.set_cons_succ]
        refine' wpAnyH_take (i := 10) (v := ?vw11_10) rfl (by kernel_rfl) (by kernel_rfl) (by kernel_rfl) (fun _ _ _ h => h) (Or.inl ⟨by rfl, ?hyw11_10⟩) (by assumption) ?restw11_10
        case hyw11_10 => (intro w hSw; (try dsimp only at hSw); go_simp; try (with_reducible rfl))
        simp only [Act.put, List.getElem_toArray, List.getElem_cons_succ, List.getElem_cons_zero, List.setIfInBounds_toArray, List.set_cons_zero, List.set_cons_succ]
        refine wpAnyH_ready (rs := [11, 12]) (by kernel_rfl) (by simp) ?_
        refine AllReadyH.cons rfl (fun K hK => ?_) (AllReadyH.cons rfl (fun K hK => ?_) AllReadyH.nil)
        · go_simp
          refine (plus_m p q d HDD _ HBP HBQ).mono ?_
          rintro e V1 ⟨rfl, b1⟩
          have HL1 := Lib.hid (HL0.out.step b1)
          refine hK.out _ _ (hHeld.2.2.2.2.2.2.2.step b1).mk7 (fun hHeld1 => ?_)
          clear hK K hHeld
          have hHeld := hHeld1
          clear hHeld1
          try simp only [Act.put, List.getElem_toArray, List.getElem_cons_succ, List.getElem_cons_zero, List.setIfInBounds_toArray, List.set_cons_zero, List.set_cons_succ]
          clear b1 HL0
          refine wpAnyH_ready (rs := [12]) (by kernel_rfl) (by simp) ?_
          refine AllReadyH.cons rfl (fun K hK => ?_) AllReadyH.nil
          go_simp
          refine hK.out _ _ (hHeld.2.2.2.2.2.2.2.step ((Below.refl _ _).alloc (Nat.le_refl _) _)).mk7 (fun hHeld1 => ?_)
          clear hK K hHeld
          have hHeld := hHeld1
          clear hHeld1
          try simp only [Act.put, List.getElem_toArray, List.getElem_cons_succ, List.getElem_cons_zero, List.setIfInBounds_toArray, List.set_cons_zero, List.set_cons_succ]
          obtain ⟨V2, HV2, HL2, HZ2⟩ : ∃ V, Hid (V1.alloc (.cells #[.int .i64 0, .int .i64 0, .int .i64 0] 35) = V) ∧ Hid (FS w V g1 g2 m2 c2 W A2 m c (wdN N (qn : Int) ds k, N)) ∧ Hid (Blk V V1.heap.size 35 #[.int .i64 0, .int .i64 0, .int .i64 0]) := ⟨_, Lib.hid rfl, Lib.hid (HL1.out.step ((Below.refl _ _).alloc (Nat.le_refl _) _)), Lib.hid (Blk.new _ _ _)⟩
          have HXN := Lib.hid (show ¬ V1.heap.size = g1 ∧ ¬ V1.heap.size = g2 from HL1.out.lts)
          have HXW := Lib.hid (show w.heap.size ≤ V1.heap.size ∧ ∀ g, (Value.slice A2 m c).ownBlock = some g → ¬ g = V1.heap.size from HL1.out.lto)
          obtain ⟨X, HX⟩ : ∃ X, Hid (V1.heap.size = X) := ⟨_, Lib.hid rfl⟩
          rw [HX.out] at HZ2 HXN HXW
          rw [HV2.out] at hHeld ⊢
          try rw [HX.out]
          clear HV2 HL1
          have z0 := HZ2.out.cell 0
          have z1 := HZ2.out.cell 1
          have z2 := HZ2.out.cell 2
          have f0 := HZ2.out.frozen 0
          have f1 := HZ2.out.frozen 1
          have f2 := HZ2.out.frozen 2
          simp only [List.getElem?_toArray, List.getElem?_cons_zero, List.getElem?_cons_succ] at z0 z1 z2
          refine wpAnyH_ready (rs := [13]) (by kernel_rfl) (by simp) ?_
          refine AllReadyH.cons rfl (fun K hK => ?_) AllReadyH.nil
          go_simp
          refine hK.out _ _ (((((hHeld.2.2.2.2.2.2.2.set HXN.out _ _).set HXN.out _ _).set HXN.out _ _)).mk7) (fun hHeld1 => ?_)
          clear hK K hHeld
          have hHeld := hHeld1
          clear hHeld1
          try simp only [Act.put, List.getElem_toArray, List.getElem_cons_succ, List.getElem_cons_zero, List.setIfInBounds_toArray, List.set_cons_zero, List.set_cons_succ]
          refine wpAnyH_done (by kernel_rfl) ?_ _
          clear hHeld z0 z1 z2 f0 f1 f2
          obtain ⟨V3, HV3⟩ : ∃ V, Hid (((V2.setCell ⟨X, 0, none⟩ (.int .i64 d.east)).setCell ⟨X, 1, none⟩ (.int .i64 d.north)).setCell ⟨X, 2, none⟩ (.int .i64 d.up) = V) := ⟨_, Lib.hid rfl⟩
          have HD3 := Lib.hid (show Blk V3 X 35 #[.int .i64 d.east, .int .i64 d.north, .int .i64 d.up] by rw [← HV3.out]; exact ((HZ2.out.set_ 0 _).set_ 1 _).set_ 2 _)
          have HL3 := Lib.hid (show FS w V3 g1 g2 m2 c2 W A2 m c (wdN N (qn : Int) ds k, N) by rw [← HV3.out]; exact ((HL2.out.far HXW.out HXN.out _ _).far HXW.out HXN.out _ _).far HXW.out HXN.out _ _)
          rw [HV3.out]
          clear HV3 HL2 HZ2
          have d0 := HD3.out.cell 0
          have d1 := HD3.out.cell 1
          have d2 := HD3.out.cell 2
          have dl := HD3.out.lt
          simp only [List.getElem?_toArray, List.getElem?_cons_zero, List.getElem?_cons_succ] at d0 d1 d2
          go_wp2_with fail
          refine (len_is d r HDB HRT _).mono ?_
          rintro e V4 ⟨rfl, b4⟩
          have HL4 := Lib.hid (HL3.out.step b4)
          clear b4 HL3 HD3 d0 d1 d2 dl
          by_cases hle : r ≤ ds
          · have hd : decide (r ≤ ds) = true := by simpa using hle
            have HNX := Lib.hid (wdN_yes HQ.out (show near N qn ds (a : Int) = true by unfold near; rw [HPP.out, HQQ.out, HDD.out]; exact near_iff HRT.out hle hds))
            have e5 : V4.cell? ⟨g2, k, none⟩ = some (.int .i64 (a : Int)) := HL4.out.cell HM2.out hlt HQ.out
            go_wp2_with (at_builtin; refine wpList_append_lies _ rfl _ _ 24 rfl w.heap.size 3 i0 (.int .i64 0) 1 8 Tryd.underlying24 hi hz0 hz1 hz2 rfl (by decide) _ _ _ rfl (HL4.out.own.alloc _) ⟨V4.heap.size, 0, none⟩ 1 1 [.int .i64 (a : Int)] rfl rfl (cell_one_new _ _ _) (by simp [Value.oneCell']) (by decide) (by unfold maxLen; omega) (by omega) (by have := HL4.out.size; simp; omega) _ rfl ?_; intro g9 c9 W9 hown' hgrow hat hlt9)
            have HL9 := Lib.hid (HL4.out.app (a := (a : Int)) hown' hgrow hat)
            clear hown' hgrow hat
            go_wp2_with fail
            go_roundw
            case rel => exact ⟨k + 1, m + 1, c9, some ⟨g9, 0, none⟩, by omega, by go_num, by omega, rfl, Lib.hid (by rw [HNX.out, List.length_append, HMX.out]; rfl), by rw [HNX.out]; exact HL9.out⟩
            case measure => simp [intOf]; omega
          · have hd : decide (r ≤ ds) = false := by simpa using hle
            have HNX := Lib.hid (wdN_no HQ.out (show near N qn ds (a : Int) = false by unfold near; rw [HPP.out, HQQ.out, HDD.out]; exact near_not HRT.out hle hds))
            go_wp2_with fail
            go_roundw
            case rel => exact ⟨k + 1, m, c, A2, by omega, by go_num, by omega, rfl, Lib.hid (by rw [HNX.out]; exact HMX.out), by rw [HNX.out]; exact HL4.out⟩
            case measure => simp [intOf]; omega
        · go_simp
          refine hK.out _ _ (hHeld.2.2.2.2.2.2.2.step ((Below.refl _ _).alloc (Nat.le_refl _) _)).mk7 (fun hHeld1 => ?_)
          clear hK K hHeld
          have hHeld := hHeld1
          clear hHeld1
          try simp only [Act.put, List.getElem_toArray, List.getElem_cons_succ, List.getElem_cons_zero, List.setIfInBounds_toArray, List.set_cons_zero, List.set_cons_succ]
          obtain ⟨V1, HV1, HL1, HZ1⟩ : ∃ V, Hid (V0.alloc (.cells #[.int .i64 0, .int .i64 0, .int .i64 0] 35) = V) ∧ Hid (FS w V g1 g2 m2 c2 W A2 m c (wdN N (qn : Int) ds k, N)) ∧ Hid (Blk V V0.heap.size 35 #[.int .i64 0, .int .i64 0, .int .i64 0]) := ⟨_, Lib.hid rfl, Lib.hid (HL0.out.step ((Below.refl _ _).alloc (Nat.le_refl _) _)), Lib.hid (Blk.new _ _ _)⟩
          have HXN := Lib.hid (show ¬ V0.heap.size = g1 ∧ ¬ V0.heap.size = g2 from HL0.out.lts)
          have HXW := Lib.hid (show w.heap.size ≤ V0.heap.size ∧ ∀ g, (Value.slice A2 m c).ownBlock = some g → ¬ g = V0.heap.size from HL0.out.lto)
          obtain ⟨X, HX⟩ : ∃ X, Hid (V0.heap.size = X) := ⟨_, Lib.hid rfl⟩
          rw [HX.out] at HZ1 HXN HXW
          rw [HV1.out] at hHeld ⊢
          try rw [HX.out]
          clear HV1 HL0
          refine wpAnyH_ready (rs := [11]) (by kernel_rfl) (by simp) ?_
          refine AllReadyH.cons rfl (fun K hK => ?_) AllReadyH.nil
          go_simp
          refine (plus_m p q d HDD _ HBP HBQ).mono ?_
          rintro e V2 ⟨rfl, b1⟩
          have HL2 := Lib.hid (HL1.out.step b1)
          have HZ2 := Lib.hid (HZ1.out.below b1 HZ1.out.lt)
          refine hK.out _ _ (hHeld.2.2.2.2.2.2.2.step b1).mk7 (fun hHeld1 => ?_)
          clear hK K hHeld
          have hHeld := hHeld1
          clear hHeld1
          try simp only [Act.put, List.getElem_toArray, List.getElem_cons_succ, List.getElem_cons_zero, List.setIfInBounds_toArray, List.set_cons_zero, List.set_cons_succ]
          clear b1 HL1 HZ1
          have z0 := HZ2.out.cell 0
          have z1 := HZ2.out.cell 1
          have z2 := HZ2.out.cell 2
          have f0 := HZ2.out.frozen 0
          have f1 := HZ2.out.frozen 1
          have f2 := HZ2.out.frozen 2
          simp only [List.getElem?_toArray, List.getElem?_cons_zero, List.getElem?_cons_succ] at z0 z1 z2
          refine wpAnyH_ready (rs := [13]) (by kernel_rfl) (by simp) ?_
          refine AllReadyH.cons rfl (fun K hK => ?_) AllReadyH.nil
          go_simp
          refine hK.out _ _ (((((hHeld.2.2.2.2.2.2.2.set HXN.out _ _).set HXN.out _ _).set HXN.out _ _)).mk7) (fun hHeld1 => ?_)
          clear hK K hHeld
          have hHeld := hHeld1
          clear hHeld1
          try simp only [Act.put, List.getElem_toArray, List.getElem_cons_succ, List.getElem_cons_zero, List.setIfInBounds_toArray, List.set_cons_zero, List.set_cons_succ]
          refine wpAnyH_done (by kernel_rfl) ?_ _
          clear hHeld z0 z1 z2 f0 f1 f2
          obtain ⟨V3, HV3⟩ : ∃ V, Hid (((V2.setCell ⟨X, 0, none⟩ (.int .i64 d.east)).setCell ⟨X, 1, none⟩ (.int .i64 d.north)).setCell ⟨X, 2, none⟩ (.int .i64 d.up) = V) := ⟨_, Lib.hid rfl⟩
          have HD3 := Lib.hid (show Blk V3 X 35 #[.int .i64 d.east, .int .i64 d.north, .int .i64 d.up] by rw [← HV3.out]; exact ((HZ2.out.set_ 0 _).set_ 1 _).set_ 2 _)
          have HL3 := Lib.hid (show FS w V3 g1 g2 m2 c2 W A2 m c (wdN N (qn : Int) ds k, N) by rw [← HV3.out]; exact ((HL2.out.far HXW.out HXN.out _ _).far HXW.out HXN.out _ _).far HXW.out HXN.out _ _)
          rw [HV3.out]
          clear HV3 HL2 HZ2
          have d0 := HD3.out.cell 0
          have d1 := HD3.out.cell 1
          have d2 := HD3.out.cell 2
          have dl := HD3.out.lt
          simp only [List.getElem?_toArray, List.getElem?_cons_zero, List.getElem?_cons_succ] at d0 d1 d2
          go_wp2_with fail
          refine (len_is d r HDB HRT _).mono ?_
          rintro e V4 ⟨rfl, b4⟩
          have HL4 := Lib.hid (HL3.out.step b4)
          clear b4 HL3 HD3 d0 d1 d2 dl
          by_cases hle : r ≤ ds
          · have hd : decide (r ≤ ds) = true := by simpa using hle
            have HNX := Lib.hid (wdN_yes HQ.out (show near N qn ds (a : Int) = true by unfold near; rw [HPP.out, HQQ.out, HDD.out]; exact near_iff HRT.out hle hds))
            have e5 : V4.cell? ⟨g2, k, none⟩ = some (.int .i64 (a : Int)) := HL4.out.cell HM2.out hlt HQ.out
            go_wp2_with (at_builtin; refine wpList_append_lies _ rfl _ _ 24 rfl w.heap.size 3 i0 (.int .i64 0) 1 8 Tryd.underlying24 hi hz0 hz1 hz2 rfl (by decide) _ _ _ rfl (HL4.out.own.alloc _) ⟨V4.heap.size, 0, none⟩ 1 1 [.int .i64 (a : Int)] rfl rfl (cell_one_new _ _ _) (by simp [Value.oneCell']) (by decide) (by unfold maxLen; omega) (by omega) (by have := HL4.out.size; simp; omega) _ rfl ?_; intro g9 c9 W9 hown' hgrow hat hlt9)
            have HL9 := Lib.hid (HL4.out.app (a := (a : Int)) hown' hgrow hat)
            clear hown' hgrow hat
            go_wp2_with fail
            go_roundw
            case rel => exact ⟨k + 1, m + 1, c9, some ⟨g9, 0, none⟩, by omega, by go_num, by omega, rfl, Lib.hid (by rw [HNX.out, List.length_append, HMX.out]; rfl), by rw [HNX.out]; exact HL9.out⟩
            case measure => simp [intOf]; omega
          · have hd : decide (r ≤ ds) = false := by simpa using hle
            have HNX := Lib.hid (wdN_no HQ.out (show near N qn ds (a : Int) = false by unfold near; rw [HPP.out, HQQ.out, HDD.out]; exact near_not HRT.out hle hds))
            go_wp2_with fail
            go_roundw
            case rel => exact ⟨k + 1, m, c, A2, by omega, by go_num, by omega, rfl, Lib.hid (by rw [HNX.out]; exact HMX.out), by rw [HNX.out]; exact HL4.out⟩
            case measure => simp [intOf]; omega
      · have hkd : decide (k < m2) = false := by simpa using hlt
        obtain rfl : m2 = k := by omega
        clear hlt
        go_wp2_with fail
        go_ret2
        exact ⟨_, by rw [HF.out.2]; rfl, by rw [HF.out.1, HMX.out]; exact HFS.out.own, HFS.out.1⟩
  · have HH := Lib.hid hh
    have hdd : decide (ds < 0) = true := by simp; omega
    have HF := Lib.hid (show wdIds ts q0 ds = [] ∧ wdOk ts q0 ds = false by
      have e : wdOk ts q0 ds = false := by unfold wdOk; rw [hh]; simpa using hds
      unfold wdIds; rw [e]; exact ⟨rfl, rfl⟩)
    clear hh
    go_enter Tryd.func38, Tryd.ntmps38
    go_wp2_with fail
    refine (has6_any A n cap ts q0 true _ HH hn HA).mono ?_
    rintro e w1 ⟨rfl, b1⟩
    have HB1 := Lib.hid (HB0.out.trans (b1.mono HB0.out.size))
    have HR1 := Lib.hid (row_below HR0.out b1)
    clear b1
    go_wp2_with fail
    go_ret2
    exact ⟨_, by rw [HF.out.2]; rfl, by rw [HF.out.1]; exact HR1.out, HB1.out⟩
#print axioms within_model
end Go.Proofs.YtnoieboiklmkaaaDoor.nt
