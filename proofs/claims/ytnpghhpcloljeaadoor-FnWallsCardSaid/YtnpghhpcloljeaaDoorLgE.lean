/-
  The model of the legs: the shift of a leg, of a chain.
  Conditions: the legs lie in one block below the call's own.
-/
import Derived.Test.YtnpghhpcloljeaaDoorLgD
import Derived.Deep.QuietTactic
import Derived.BigQuiet
import Derived.Deep.DeepCutAuto
import Derived.Deep.RegionWith
namespace Go.Proofs.YtnpghhpcloljeaaDoor.lg
open Go.RowKit
open reads base ty inn
set_option linter.unusedVariables false
set_option linter.unusedSimpArgs false

def ansShift (x : Lg) : Value := if okLg x = true then .tuple #[.agg #[.int .i64 (shf x).east, .int .i64 (shf x).north, .int .i64 (shf x).up], .bool true] else .tuple #[.agg #[.int .i64 0, .int .i64 0, .int .i64 0], .bool false]
theorem shift_is (x : Lg) (s : Sf) (h : Hid (shf x = s)) (w : World) (hx : Hid (okLg x = true)) : Calls Tryd.prog 28 #[.agg #[.int .i64 x.frm, .int .i64 x.to_, .int .i64 x.tape, .int .i64 x.comp, .int .i64 x.slope]] w (APost (.agg #[.int .i64 s.east, .int .i64 s.north, .int .i64 s.up]) w) := by rw [← h.out]; exact shift_any x w hx
/-- a sum of shifts -/
def add3 (a b : Sf) : Sf := ⟨a.east + b.east, a.north + b.north, a.up + b.up⟩
set_option maxHeartbeats 4000000 in
set_option maxRecDepth 100000 in
theorem plus_any (a b : Sf) (m : Int) (w : World) (hm : 0 ≤ m) (hm2 : m ≤ 1000000) (a0 : -m ≤ a.east ∧ a.east ≤ m) (a1 : -m ≤ a.north ∧ a.north ≤ m) (a2 : -m ≤ a.up ∧ a.up ≤ m) (b0 : -500 ≤ b.east ∧ b.east ≤ 500) (b1 : -500 ≤ b.north ∧ b.north ≤ 500) (b2 : -500 ≤ b.up ∧ b.up ≤ 500) :
    Calls Tryd.prog 30 #[.agg #[.int .i64 a.east, .int .i64 a.north, .int .i64 a.up], .agg #[.int .i64 b.east, .int .i64 b.north, .int .i64 b.up], .int .i64 1] w (APost (.agg #[.int .i64 (add3 a b).east, .int .i64 (add3 a b).north, .int .i64 (add3 a b).up]) w) := by
  have HR := Lib.hid (show add3 a b = ⟨a.east + b.east, a.north + b.north, a.up + b.up⟩ from rfl)
  obtain ⟨a00, a01⟩ := a0
  obtain ⟨a10, a11⟩ := a1
  obtain ⟨a20, a21⟩ := a2
  obtain ⟨b00, b01⟩ := b0
  obtain ⟨b10, b11⟩ := b1
  obtain ⟨b20, b21⟩ := b2
  go_enter Tryd.func30, Tryd.ntmps30
  go_wp2_with fail
  refine bodyPost_ret (v := .agg #[.int .i64 (add3 a b).east, .int .i64 (add3 a b).north, .int .i64 (add3 a b).up]) (by simp [results, Tryd.results30, go_sem, HR.out]) rfl ⟨rfl, ?_⟩
  exact (((Below.refl _ _).alloc (Nat.le_refl _) _).alloc (by simp) _).alloc (by simp; omega) _
theorem plus_is (a b c : Sf) (h : Hid (add3 a b = c)) (m : Int) (w : World) (hm : 0 ≤ m) (hm2 : m ≤ 1000000) (a0 : -m ≤ a.east ∧ a.east ≤ m) (a1 : -m ≤ a.north ∧ a.north ≤ m) (a2 : -m ≤ a.up ∧ a.up ≤ m) (b0 : -500 ≤ b.east ∧ b.east ≤ 500) (b1 : -500 ≤ b.north ∧ b.north ≤ 500) (b2 : -500 ≤ b.up ∧ b.up ≤ 500) :
    Calls Tryd.prog 30 #[.agg #[.int .i64 a.east, .int .i64 a.north, .int .i64 a.up], .agg #[.int .i64 b.east, .int .i64 b.north, .int .i64 b.up], .int .i64 1] w (APost (.agg #[.int .i64 c.east, .int .i64 c.north, .int .i64 c.up]) w) := by rw [← h.out]; exact plus_any a b m w hm hm2 a0 a1 a2 b0 b1 b2
/-- each leg of a list begins where the one before it ends -/
def lkAt (ts : List Lg) (i : Nat) : Bool :=
  match i with
  | 0 => true
  | j + 1 => match ts[j]?, ts[j + 1]? with
    | some p, some t => p.to_ == t.frm
    | _, _ => true
def lkAll (ts : List Lg) : Nat → Bool
  | 0 => true
  | k + 1 => lkAll ts k && lkAt ts k
theorem lkAt_succ {ts : List Lg} {k j : Nat} {t p : Lg} (h0 : k = j + 1) (h : ts[k]? = some t) (hp : ts[j]? = some p) : lkAt ts k = (p.to_ == t.frm) := by
  subst h0
  unfold lkAt
  simp only [h, hp]
theorem lkAll_no (ts : List Lg) (i : Nat) (h : lkAt ts i = false) : ∀ n, i < n → lkAll ts n = false
  | 0, hi => by omega
  | n + 1, hi => by
    rw [lkAll]
    by_cases e : i = n
    · subst e; rw [h]; simp
    · rw [lkAll_no ts i h n (by omega)]; rfl
/-- the sum of the first k shifts -/
def ssum (ts : List Lg) : Nat → Sf
  | 0 => ⟨0, 0, 0⟩
  | k + 1 => match ts[k]? with
    | some t => add3 (ssum ts k) (shf t)
    | none => ssum ts k
theorem ssum_succ {ts : List Lg} {k : Nat} {t : Lg} (h : ts[k]? = some t) : ssum ts (k + 1) = add3 (ssum ts k) (shf t) := by
  show (match ts[k]? with | some t => _ | none => _) = _
  rw [h]
theorem ssum_bd {ts : List Lg} (h : ∀ t ∈ ts, okLg t = true) : ∀ k : Nat, (-(500 * (k : Int)) ≤ (ssum ts k).east ∧ (ssum ts k).east ≤ 500 * k) ∧ (-(500 * (k : Int)) ≤ (ssum ts k).north ∧ (ssum ts k).north ≤ 500 * k) ∧ (-(500 * (k : Int)) ≤ (ssum ts k).up ∧ (ssum ts k).up ≤ 500 * k)
  | 0 => by simp [ssum]
  | k + 1 => by
    have i := ssum_bd h k
    show (_ ≤ (match ts[k]? with | some t => add3 (ssum ts k) (shf t) | none => ssum ts k).east ∧ _) ∧ _
    cases q : ts[k]? with
    | none => rw [show ssum ts (k + 1) = ssum ts k by show (match ts[k]? with | some t => _ | none => _) = _; rw [q]]; simp only []; omega
    | some t =>
      have b := shf_bd (h t (List.mem_of_getElem? q))
      rw [ssum_succ q]
      simp only [add3]
      omega
def chOk (ts : List Lg) : Bool := goodLg ts && lkAll ts ts.length
def ansChain (ts : List Lg) : Value := if chOk ts = true then .tuple #[.agg #[.int .i64 (ssum ts ts.length).east, .int .i64 (ssum ts ts.length).north, .int .i64 (ssum ts ts.length).up], .bool true] else .tuple #[.agg #[.int .i64 0, .int .i64 0, .int .i64 0], .bool false]
/-- the answer and the sum in their boxes, and nothing old has turned -/
def CB2 (w : World) (s : Sf) (v : World) : Prop := Blk v w.heap.size 27 #[.int .i64 0, .int .i64 0, .int .i64 0] ∧ Blk v (w.heap.size + 1) 27 #[.int .i64 s.east, .int .i64 s.north, .int .i64 s.up] ∧ Below w.heap.size w v
theorem CB2.start (w : World) : CB2 w ⟨0, 0, 0⟩ ((w.alloc (.cells #[.int .i64 0, .int .i64 0, .int .i64 0] 27)).alloc (.cells #[.int .i64 0, .int .i64 0, .int .i64 0] 27)) := by
  refine ⟨(Blk.new w _ _).alloc _, ?_, ((Below.refl _ _).alloc (Nat.le_refl _) _).alloc (by simp) _⟩
  have h := Blk.new (w.alloc (.cells #[.int .i64 0, .int .i64 0, .int .i64 0] 27)) 27 #[.int .i64 0, .int .i64 0, .int .i64 0]
  simpa using h
theorem CB2.step {w v v' : World} {s : Sf} (h : CB2 w s v) (hb : Below v.heap.size v v') : CB2 w s v' := ⟨h.1.below hb h.1.lt, h.2.1.below hb h.2.1.lt, h.2.2.trans (hb.mono h.2.2.size)⟩
theorem CB2.drew {w v : World} {s : Sf} (h : CB2 w s v) : CB2 w s v.drew := ⟨h.1.drew, h.2.1.drew, h.2.2.drew⟩
theorem CB2.drewN {w v : World} {s : Sf} (h : CB2 w s v) (m : Nat) : CB2 w s (v.drewN m) := h.step (drewN_below v m)
theorem CB2.cs {w v : World} {s : Sf} (h : CB2 w s v) : v.cell? ⟨w.heap.size + 1, 0, none⟩ = some (.int .i64 s.east) ∧ v.cell? ⟨w.heap.size + 1, 1, none⟩ = some (.int .i64 s.north) ∧ v.cell? ⟨w.heap.size + 1, 2, none⟩ = some (.int .i64 s.up) := ⟨h.2.1.cell 0, h.2.1.cell 1, h.2.1.cell 2⟩
theorem CB2.zs {w v : World} {s : Sf} (h : CB2 w s v) : v.cell? ⟨w.heap.size, 0, none⟩ = some (.int .i64 0) ∧ v.cell? ⟨w.heap.size, 1, none⟩ = some (.int .i64 0) ∧ v.cell? ⟨w.heap.size, 2, none⟩ = some (.int .i64 0) := ⟨h.1.cell 0, h.1.cell 1, h.1.cell 2⟩
theorem CB2.fs {w v : World} {s : Sf} (h : CB2 w s v) : v.frozen? ⟨w.heap.size + 1, 0, none⟩ = false ∧ v.frozen? ⟨w.heap.size + 1, 1, none⟩ = false ∧ v.frozen? ⟨w.heap.size + 1, 2, none⟩ = false ∧ w.heap.size + 1 < v.heap.size := ⟨h.2.1.frozen 0, h.2.1.frozen 1, h.2.1.frozen 2, h.2.1.lt⟩
theorem CB2.gs {w v : World} {s : Sf} (h : CB2 w s v) : v.frozen? ⟨w.heap.size, 0, none⟩ = false ∧ v.frozen? ⟨w.heap.size, 1, none⟩ = false ∧ v.frozen? ⟨w.heap.size, 2, none⟩ = false ∧ w.heap.size < v.heap.size := ⟨h.1.frozen 0, h.1.frozen 1, h.1.frozen 2, h.1.lt⟩
theorem CB2.put {w v : World} {s : Sf} (h : CB2 w s v) (y : Sf) : CB2 w y (((v.setCell ⟨w.heap.size + 1, 0, none⟩ (.int .i64 y.east)).setCell ⟨w.heap.size + 1, 1, none⟩ (.int .i64 y.north)).setCell ⟨w.heap.size + 1, 2, none⟩ (.int .i64 y.up)) := by
  obtain ⟨h1, h2, h3⟩ := h
  refine ⟨((h1.far (by show _ ≠ _; simp) _).far (by show _ ≠ _; simp) _).far (by show _ ≠ _; simp) _, ?_, ((h3.setCell (by simp) _).setCell (by simp) _).setCell (by simp) _⟩
  have k := ((h2.set_ 0 (.int .i64 y.east)).set_ 1 (.int .i64 y.north)).set_ 2 (.int .i64 y.up)
  simpa using k
/-- the sum's box holds the old sum or the new one -/
def CX (w : World) (s nx : Sf) (v : World) : Prop := CB2 w s v
end Go.Proofs.YtnpghhpcloljeaaDoor.lg
