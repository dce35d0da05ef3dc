/-
  Closing legs.
  The error of a leg (pure mathematics).
  What the program's networks keep, of valid legs and of others.
  What lies between two placed stations of a network, by the program.
  The error of a leg, by the program.
  The error of a leg among others, by the program.
  The error of a leg, by the program.
  The error of a leg, by the program: all ways.
  Conditions: those that each theorem names.
-/
import Derived.Test.YtkeepfkjhcmhlaaDoorNqG0
import Derived.Test.YtkeepfkjhcmhlaaDoorNtZ
import Derived.Test.YtkeepfkjhcmhlaaDoorNqC0
import Derived.Deep.RegionHeld3
import Derived.Test.YtkeepfkjhcmhlaaDoorNqI0
namespace Go.Proofs.YtkeepfkjhcmhlaaDoor.nq
open Go.RowKit
open reads base ty lg lgi win hs nt rowi sn
set_option linter.unusedVariables false
set_option linter.unusedSimpArgs false

set_option maxHeartbeats 8000000 in
set_option maxRecDepth 100000 in
theorem closing_impl (A : Option Addr) (n cap : Nat) (ts : List Lg) (w : World) (hn : n ≤ 2000000) (hts : Hid (LgAt w w.heap.size A n ts)) (hT : Hid (Tab w)) :
    Calls Tryd.prog 50 #[.slice A n cap] w (LPost (clIds ts) (goodLg ts) w) := by
  obtain ⟨C, HC⟩ : ∃ C, Hid (nv (netS ts) (clS ts) = C) := ⟨_, Lib.hid rfl⟩
  obtain ⟨g, HG⟩ : ∃ g, Hid (goodLg ts = g) := ⟨_, Lib.hid rfl⟩
  have hcz : C.size = 56 := by rw [← HC.out]; exact nv_size (nok_S ts)
  have HC1 := Lib.hid (show C.all (·.oneCell') = true by rw [← HC.out]; exact nv_one)
  rw [HG.out]
  go_enter Tryd.func50, Tryd.ntmps50
  go_wp2_with fail
  refine (net_any A n cap ts C g HC HG w hn hts hT).mono ?_
  rintro e w1 ⟨rfl, b1⟩
  have HB1 := Lib.hid b1
  clear b1
  have hst := lay_net hcz HC1.out w1
  have HB2 := Lib.hid (HB1.out.alloc HB1.out.size (.cells C 73))
  have HN2 := Lib.hid (show BsAt (w1.alloc (.cells C 73)) w1.heap.size 44 (clS ts) from bs_cl (nok_S ts) (by rw [HC.out]; exact Blk.new _ _ _))
  go_wp2_with fail
  clear hst
  refine (marked_any w1.heap.size 44 12 _ _ (Lib.hid ((nok_S ts).2)) (by decide) HN2).mono ?_
  rintro e w2 ⟨A2, c2, rfl, hO, b2⟩
  have HF := Lib.hid (cl_S ts)
  rw [HF.out] at hO ⊢
  have HO := Lib.hid (own_mono hO HB2.out.size)
  have HB := Lib.hid (HB2.out.trans (b2.mono HB2.out.size))
  clear hO b2 HN2 HB2
  go_wp2_with fail
  go_ret2
  exact ⟨_, rfl, HO.out, HB.out⟩
end Go.Proofs.YtkeepfkjhcmhlaaDoor.nq

namespace Go.Proofs.YtkeepfkjhcmhlaaDoor.nt
open Go.RowKit
open reads base inn ty lg hs
set_option linter.unusedVariables false

/-- the error of a leg -/
def errV (ts : List Lg) (x : Lg) : Sf := add3 (sub3 (shf x) (at_ (net ts).pl x.to_)) (at_ (net ts).pl x.frm)
def erAt (ts : List Lg) (q : Int) : Bool := match ts[q.toNat]? with
  | some x => mem (net ts).ps x.frm
  | none => false
def erOk (ts : List Lg) (q : Int) : Bool := goodLg ts && (btw 0 q ((ts.length : Int) - 1) && erAt ts q)
def erV (ts : List Lg) (q : Int) : Sf := match ts[q.toNat]? with
  | some x => errV ts x
  | none => zero3
/-- ErrorOf's answer -/
def ansEr (ts : List Lg) (q : Int) : Value := if erOk ts q then .tuple #[.agg #[.int .i64 (erV ts q).east, .int .i64 (erV ts q).north, .int .i64 (erV ts q).up], .bool true] else .tuple #[.agg #[.int .i64 0, .int .i64 0, .int .i64 0], .bool false]
def Bd4 (z : Sf) : Prop := (-4000 ≤ z.east ∧ z.east ≤ 4000) ∧ (-4000 ≤ z.north ∧ z.north ≤ 4000) ∧ (-4000 ≤ z.up ∧ z.up ≤ 4000)
theorem bd4_at {s : Net} (h : Ok s) (x : Int) : Bd4 (at_ s.pl x) := by have h1 := at_bd h x; have h2 := h.ps_len; unfold Bd4; omega
end Go.Proofs.YtkeepfkjhcmhlaaDoor.nt

namespace Go.Proofs.YtkeepfkjhcmhlaaDoor.nq
open Go.RowKit
open reads base ty lg lgi win hs nt rowi sn
set_option linter.unusedVariables false

/-- what the program's networks keep, of valid legs and of others -/
def Q6 (s : Net) : Prop := s.pl.length = 8 ∧ (∀ x ∈ s.ps, 0 ≤ x ∧ x ≤ 7) ∧ s.ps.length ≤ 8 ∧ ∀ x, Bd4 (at_ s.pl x)
theorem q6 (ts : List Lg) : Q6 (netS ts) := by
  unfold netS
  cases h : goodLg ts
  · refine ⟨rfl, (fun x hx => by cases hx), Nat.zero_le _, fun x => ?_⟩
    have e : at_ none6.pl x = zero3 := by
      show ((List.replicate 8 zero3)[x.toNat]?).getD zero3 = zero3
      rw [List.getElem?_replicate]; split <;> rfl
    show Bd4 (at_ none6.pl x)
    rw [e]; unfold Bd4 zero3; decide
  · have ho := ok_net h
    exact ⟨ho.1, ho.2.2.1, ho.ps_len, bd4_at ho⟩
end Go.Proofs.YtkeepfkjhcmhlaaDoor.nq

namespace Go.Proofs.YtkeepfkjhcmhlaaDoor.nq
open Go.RowKit
open reads base ty lg lgi win hs nt rowi
set_option linter.unusedVariables false
set_option linter.unusedSimpArgs false

/-- a network in a box and what it shows of two places, a box for the answer -/
def BW (w : World) (C : Array Value) (a b : Nat) (p q : Sf) (v : World) : Prop := v.cell? ⟨w.heap.size, 8 + a * 3, none⟩ = some (.int .i64 p.east) ∧ v.cell? ⟨w.heap.size, 8 + a * 3 + 1, none⟩ = some (.int .i64 p.north) ∧ v.cell? ⟨w.heap.size, 8 + a * 3 + 2, none⟩ = some (.int .i64 p.up) ∧ v.cell? ⟨w.heap.size, 8 + b * 3, none⟩ = some (.int .i64 q.east) ∧ v.cell? ⟨w.heap.size, 8 + b * 3 + 1, none⟩ = some (.int .i64 q.north) ∧ v.cell? ⟨w.heap.size, 8 + b * 3 + 2, none⟩ = some (.int .i64 q.up) ∧ Blk v w.heap.size 73 C ∧ (∃ u0 u1 u2, Blk v (w.heap.size + 1) 35 #[u0, u1, u2]) ∧ Below w.heap.size w v
theorem BW.step {w v v' : World} {C : Array Value} {a b : Nat} {p q : Sf} (h : BW w C a b p q v) (hb : Below v.heap.size v v') : BW w C a b p q v' := by
  obtain ⟨c0, c1, c2, c3, c4, c5, h1, h2, h3⟩ := h
  have A : ∀ o, v'.cell? ⟨w.heap.size, o, none⟩ = v.cell? ⟨w.heap.size, o, none⟩ := fun o => hb.cell (p := ⟨w.heap.size, o, none⟩) h1.lt
  exact ⟨(A _).trans c0, (A _).trans c1, (A _).trans c2, (A _).trans c3, (A _).trans c4, (A _).trans c5, h1.below hb h1.lt, (by obtain ⟨u0, u1, u2, k⟩ := h2; exact ⟨u0, u1, u2, k.below hb k.lt⟩), h3.trans (hb.mono h3.size)⟩
theorem BW.mk7 {w v : World} {C : Array Value} {a b : Nat} {p q : Sf} (h : BW w C a b p q v) : v.cell? ⟨w.heap.size, 8 + a * 3, none⟩ = some (.int .i64 p.east) ∧ v.cell? ⟨w.heap.size, 8 + a * 3 + 1, none⟩ = some (.int .i64 p.north) ∧ v.cell? ⟨w.heap.size, 8 + a * 3 + 2, none⟩ = some (.int .i64 p.up) ∧ v.cell? ⟨w.heap.size, 8 + b * 3, none⟩ = some (.int .i64 q.east) ∧ v.cell? ⟨w.heap.size, 8 + b * 3 + 1, none⟩ = some (.int .i64 q.north) ∧ v.cell? ⟨w.heap.size, 8 + b * 3 + 2, none⟩ = some (.int .i64 q.up) ∧ BW w C a b p q v := ⟨h.1, h.2.1, h.2.2.1, h.2.2.2.1, h.2.2.2.2.1, h.2.2.2.2.2.1, h⟩
set_option maxHeartbeats 8000000 in
set_option maxRecDepth 100000 in
theorem between_any (s : Net) (cl : List Bool) (a b : Nat) (p q d : Sf) (w : World) (hN : Hid (NOk s cl)) (ha : a < 8) (hb : b < 8) (HP : Hid (at_ s.pl (a : Int) = p)) (HQ : Hid (at_ s.pl (b : Int) = q)) (HD : Hid (sub3 q p = d)) (HPB : Hid (BdS p)) (HQB : Hid (BdS q)) :
    Calls Tryd.prog 79 #[.agg (nv s cl), .int .i64 (a : Int), .int .i64 (b : Int)] w (APost (.agg #[.int .i64 d.east, .int .i64 d.north, .int .i64 d.up]) w) := by
  obtain ⟨C, HC⟩ : ∃ C, Hid (nv s cl = C) := ⟨_, Lib.hid rfl⟩
  have HW := Lib.hid (show BW w C a b p q ((w.alloc (.cells C 73)).alloc (.cells #[.int .i64 0, .int .i64 0, .int .i64 0] 35)) by
    obtain ⟨p0, p1, p2⟩ := nv_pl hN.out ha
    obtain ⟨q0, q1, q2⟩ := nv_pl hN.out hb
    rw [HC.out, HP.out] at p0 p1 p2
    rw [HC.out, HQ.out] at q0 q1 q2
    have B := (Blk.new w 73 C).alloc (.cells #[.int .i64 0, .int .i64 0, .int .i64 0] 35)
    have B2 := Blk.new (w.alloc (.cells C 73)) 35 #[.int .i64 0, .int .i64 0, .int .i64 0]
    rw [show (w.alloc (.cells C 73)).heap.size = w.heap.size + 1 by simp] at B2
    exact ⟨(B.cell _).trans p0, (B.cell _).trans p1, (B.cell _).trans p2, (B.cell _).trans q0, (B.cell _).trans q1, (B.cell _).trans q2, B, ⟨_, _, _, B2⟩, ((Below.refl _ _).alloc (Nat.le_refl _) _).alloc (by simp) _⟩)
  rw [HC.out]
  clear HC HP HQ hN
  have ha0 : (0 : Int) ≤ (a : Int) := by omega
  have hb0 : (0 : Int) ≤ (b : Int) := by omega
  have ha8 : (a : Int) < 8 := by omega
  have hb8 : (b : Int) < 8 := by omega
  obtain ⟨W0, HW0⟩ : ∃ W, Hid ((w.alloc (.cells C 73)).alloc (.cells #[.int .i64 0, .int .i64 0, .int .i64 0] 35) = W) := ⟨_, Lib.hid rfl⟩
  rw [HW0.out] at HW
  go_enter Tryd.func79, Tryd.ntmps79
  go_upto_region 1 with fail
  rw [HW0.out]
  clear HW0
  refine wp_region_held_drew (S := (fun v => v.cell? ⟨w.heap.size, 8 + a * 3, none⟩ = some (.int .i64 p.east) ∧ v.cell? ⟨w.heap.size, 8 + a * 3 + 1, none⟩ = some (.int .i64 p.north) ∧ v.cell? ⟨w.heap.size, 8 + a * 3 + 2, none⟩ = some (.int .i64 p.up) ∧ v.cell? ⟨w.heap.size, 8 + b * 3, none⟩ = some (.int .i64 q.east) ∧ v.cell? ⟨w.heap.size, 8 + b * 3 + 1, none⟩ = some (.int .i64 q.north) ∧ v.cell? ⟨w.heap.size, 8 + b * 3 + 2, none⟩ = some (.int .i64 q.up) ∧ BW w C a b p q v)) (by kernel_rfl) ?_ (fun hHeld => ?_)
  · exact HW.out.step (Below.refl _ _).drew |>.mk7
  refine' wpAnyH_take (i := 0) (v := ?vr1_0) rfl (by kernel_rfl) (by kernel_rfl) (by kernel_rfl) (fun _ _ _ h => h) (Or.inl ⟨by rfl, ?hyr1_0⟩) (by assumption) ?restr1_0
  case hyr1_0 => (intro w hSw; (try dsimp only at hSw); go_simp; try (with_reducible rfl))
  simp only [Act.put, List.getElem_toArray, List.getElem_cons_succ, List.getElem_cons_zero, List.setIfInBounds_toArray, List.set_cons_zero, List.set_cons_succ]
  refine' wpAnyH_take (i := 1) (v := ?vr1_1) rfl (by kernel_rfl) (by kernel_rfl) (by kernel_rfl) (fun _ _ _ h => h) (Or.inl ⟨by rfl, ?hyr1_1⟩) (by assumption) ?restr1_1
  case hyr1_1 => (intro w hSw; (try dsimp only at hSw); go_simp; try (with_reducible rfl))
  simp only [Act.put, List.getElem_toArray, List.getElem_cons_succ, List.getElem_cons_zero, List.setIfInBounds_toArray, List.set_cons_zero, List.set_cons_succ]
  refine' wpAnyH_take (i := 2) (v := ?vr1_2) rfl (by kernel_rfl) (by kernel_rfl) (by kernel_rfl) (fun _ _ _ h => h) (Or.inl ⟨by rfl, ?hyr1_2⟩) (by assumption) ?restr1_2
  case hyr1_2 => (intro w hSw; (try dsimp only at hSw); go_simp; try (with_reducible rfl))
  simp only [Act.put, List.getElem_toArray, List.getElem_cons_succ, List.getElem_cons_zero, List.setIfInBounds_toArray, List.set_cons_zero, List.set_cons_succ]
  refine' wpAnyH_take (i := 3) (v := ?vr1_3) rfl (by kernel_rfl) (by kernel_rfl) (by kernel_rfl) (fun _ _ _ h => h) (Or.inl ⟨by rfl, ?hyr1_3⟩) (by assumption) ?restr1_3
  case hyr1_3 => (intro w hSw; (try dsimp only at hSw); go_simp; try (with_reducible rfl))
  simp only [Act.put, List.getElem_toArray, List.getElem_cons_succ, List.getElem_cons_zero, List.setIfInBounds_toArray, List.set_cons_zero, List.set_cons_succ]
  refine' wpAnyH_take (i := 4) (v := ?vr1_4) rfl (by kernel_rfl) (by kernel_rfl) (by kernel_rfl) (fun _ _ _ h => h) (Or.inl ⟨by rfl, ?hyr1_4⟩) (by assumption) ?restr1_4
  case hyr1_4 => (intro w hSw; (try dsimp only at hSw); go_simp; try (with_reducible rfl))
  simp only [Act.put, List.getElem_toArray, List.getElem_cons_succ, List.getElem_cons_zero, List.setIfInBounds_toArray, List.set_cons_zero, List.set_cons_succ]
  refine' wpAnyH_take (i := 5) (v := ?vr1_5) rfl (by kernel_rfl) (by kernel_rfl) (by kernel_rfl) (fun _ _ _ h => h) (Or.inl ⟨by rfl, ?hyr1_5⟩) (by assumption) ?restr1_5
  case hyr1_5 => (intro w hSw; (try dsimp only at hSw); go_simp; try (with_reducible rfl))
  simp only [Act.put, List.getElem_toArray, List.getElem_cons_succ, List.getElem_cons_zero, List.setIfInBounds_toArray, List.set_cons_zero, List.set_cons_succ]
  refine' wpAnyH_take (i := 6) (v := ?vr1_6) rfl (by kernel_rfl) (by kernel_rfl) (by kernel_rfl) (fun _ _ _ h => h) (Or.inl ⟨by rfl, ?hyr1_6⟩) (by assumption) ?restr1_6
  case hyr1_6 => (intro w hSw; (try dsimp only at hSw); go_simp; try (with_reducible rfl))
  simp only [Act.put, List.getElem_toArray, List.getElem_cons_succ, List.getElem_cons_zero, List.setIfInBounds_toArray, List.set_cons_zero, List.set_cons_succ]
  refine' wpAnyH_take (i := 7) (v := ?vr1_7) rfl (by kernel_rfl) (by kernel_rfl) (by kernel_rfl) (fun _ _ _ h => h) (Or.inl ⟨by rfl, ?hyr1_7⟩) (by assumption) ?restr1_7
  case hyr1_7 => (intro w hSw; (try dsimp only at hSw); go_simp; try (with_reducible rfl))
  simp only [Act.put, List.getElem_toArray, List.getElem_cons_succ, List.getElem_cons_zero, List.setIfInBounds_toArray, List.set_cons_zero, List.set_cons_succ]
  refine wpAnyH_ready (rs := [8]) (by kernel_rfl) (by simp) ?_
  refine AllReadyH.cons rfl (fun K hK => ?_) AllReadyH.nil
  go_simp
  refine (diff_q q p d HD _ HQB HPB).mono ?_
  rintro e w1 ⟨rfl, b1⟩
  refine hK.out _ _ ((hHeld.2.2.2.2.2.2.step b1).mk7) (fun hHeld1 => ?_)
  clear hK K hHeld
  have hHeld := hHeld1
  clear hHeld1
  try simp only [Act.put, List.getElem_toArray, List.getElem_cons_succ, List.getElem_cons_zero, List.setIfInBounds_toArray, List.set_cons_zero, List.set_cons_succ]
  have HW1 := Lib.hid hHeld.2.2.2.2.2.2
  obtain ⟨u0, u1, u2, hb1⟩ := HW1.out.2.2.2.2.2.2.2.1
  have HB1 := Lib.hid hb1
  have HB2 := Lib.hid HW1.out.2.2.2.2.2.2.2.2
  clear hb1
  have k0 := HB1.out.cell 0
  have k1 := HB1.out.cell 1
  have k2 := HB1.out.cell 2
  have f0 := HB1.out.frozen 0
  have f1 := HB1.out.frozen 1
  have f2 := HB1.out.frozen 2
  have klt := HB1.out.lt
  clear HW1
  refine wpAnyH_ready (rs := [9]) (by kernel_rfl) (by simp) ?_
  refine AllReadyH.cons rfl (fun K hK => ?_) AllReadyH.nil
  go_simp
  refine hK.out _ _ ?keep (fun hHeld1 => ?_)
  case keep =>
    have H := hHeld.2.2.2.2.2.2
    have A : ∀ o, (((w1.setCell ⟨w.heap.size + 1, 0, none⟩ (.int .i64 d.east)).setCell ⟨w.heap.size + 1, 1, none⟩ (.int .i64 d.north)).setCell ⟨w.heap.size + 1, 2, none⟩ (.int .i64 d.up)).cell? ⟨w.heap.size, o, none⟩ = w1.cell? ⟨w.heap.size, o, none⟩ := fun o => by
      rw [World.cell?_setCell_other _ _ _ _ (by intro e; injection e with e1; omega), World.cell?_setCell_other _ _ _ _ (by intro e; injection e with e1; omega), World.cell?_setCell_other _ _ _ _ (by intro e; injection e with e1; omega)]
    exact ⟨(A _).trans H.1, (A _).trans H.2.1, (A _).trans H.2.2.1, (A _).trans H.2.2.2.1, (A _).trans H.2.2.2.2.1, (A _).trans H.2.2.2.2.2.1, (A _).trans H.1, (A _).trans H.2.1, (A _).trans H.2.2.1, (A _).trans H.2.2.2.1, (A _).trans H.2.2.2.2.1, (A _).trans H.2.2.2.2.2.1, ((H.2.2.2.2.2.2.1.far (p := ⟨w.heap.size + 1, 0, none⟩) (by show _ ≠ w.heap.size + 1; omega) _).far (p := ⟨w.heap.size + 1, 1, none⟩) (by show _ ≠ w.heap.size + 1; omega) _).far (p := ⟨w.heap.size + 1, 2, none⟩) (by show _ ≠ w.heap.size + 1; omega) _, ⟨_, _, _, ((HB1.out.set_ 0 _).set_ 1 _).set_ 2 _⟩, ((HB2.out.setCell (by simp) _).setCell (by simp) _).setCell (by simp) _⟩
  clear hK K
  try simp only [Act.put, List.getElem_toArray, List.getElem_cons_succ, List.getElem_cons_zero, List.setIfInBounds_toArray, List.set_cons_zero, List.set_cons_succ]
  refine wpAnyH_done (by kernel_rfl) ?_ _
  clear hHeld1
  go_wp2_with fail
  refine bodyPost_ret (v := .agg #[.int .i64 d.east, .int .i64 d.north, .int .i64 d.up]) (by simp [results, Tryd.results79, go_sem, *]) rfl ⟨rfl, ?_⟩
  exact ((HB2.out.setCell (by simp) _).setCell (by simp) _).setCell (by simp) _
end Go.Proofs.YtkeepfkjhcmhlaaDoor.nq

namespace Go.Proofs.YtkeepfkjhcmhlaaDoor.nq
open Go.RowKit
open reads base ty lg lgi win hs nt rowi sn
set_option linter.unusedVariables false
set_option linter.unusedSimpArgs false

theorem between_c {s : Net} {cl : List Bool} {C : Array Value} (HC : Hid (nv s cl = C)) (a b : Nat) (p q d : Sf) (w : World) (hN : Hid (NOk s cl)) (ha : a < 8) (hb : b < 8) (HP : Hid (at_ s.pl (a : Int) = p)) (HQ : Hid (at_ s.pl (b : Int) = q)) (HD : Hid (sub3 q p = d)) (HPB : Hid (BdS p)) (HQB : Hid (BdS q)) :
    Calls Tryd.prog 79 #[.agg C, .int .i64 (a : Int), .int .i64 (b : Int)] w (APost (.agg #[.int .i64 d.east, .int .i64 d.north, .int .i64 d.up]) w) := by
  rw [← HC.out]; exact between_any s cl a b p q d w hN ha hb HP HQ HD HPB HQB
end Go.Proofs.YtkeepfkjhcmhlaaDoor.nq

namespace Go.Proofs.YtkeepfkjhcmhlaaDoor.nq
open Go.RowKit
open reads base ty lg lgi win hs nt rowi sn
set_option linter.unusedVariables false
set_option linter.unusedSimpArgs false

set_option maxHeartbeats 16000000 in
set_option maxRecDepth 100000 in
theorem err_bad (A : Option Addr) (n cap : Nat) (ts : List Lg) (z : Int) (C : Array Value) (w : World) (hn : n ≤ 2000000) (HC : Hid (nv (netS ts) (clS ts) = C)) (hts : Hid (LgAt w w.heap.size A n ts)) (hT : Hid (Tab w)) (HG : Hid (goodLg ts = false)) :
    Calls Tryd.prog 43 #[.slice A n cap, .int .i64 z] w (APost (.tuple #[.agg #[.int .i64 0, .int .i64 0, .int .i64 0], .bool false]) w) := by
  have hcz : C.size = 56 := by rw [← HC.out]; exact nv_size (nok_S ts)
  have HC1 := Lib.hid (show C.all (·.oneCell') = true by rw [← HC.out]; exact nv_one)
  have HA := Lib.hid (hts.out.alloc (.cells #[.int .i64 0, .int .i64 0, .int .i64 0] 35))
  have HT0 := Lib.hid (hT.out.alloc (.cells #[.int .i64 0, .int .i64 0, .int .i64 0] 35))
  go_enter Tryd.func43, Tryd.ntmps43
  go_wp2_with fail
  refine (net_any A n cap ts C false HC HG _ hn HA HT0).mono ?_
  rintro e w1 ⟨rfl, b1⟩
  have HR := Lib.hid ((Blk.new w 35 #[.int .i64 0, .int .i64 0, .int .i64 0]).below b1 (by simp))
  have HB := Lib.hid (((Below.refl w.heap.size w).alloc (Nat.le_refl _) (.cells #[.int .i64 0, .int .i64 0, .int .i64 0] 35)).trans (b1.mono (by simp)))
  clear b1
  have hst := lay_net hcz HC1.out w1
  have HR2 := Lib.hid (HR.out.alloc (.cells C 73))
  have HB2 := Lib.hid (HB.out.alloc HB.out.size (.cells C 73))
  have HG2 := Lib.hid (Blk.new w1 73 C)
  obtain ⟨W, HW⟩ : ∃ W, Hid (w1.alloc (.cells C 73) = W) := ⟨_, Lib.hid rfl⟩
  obtain ⟨G, HGG⟩ : ∃ G, Hid (w1.heap.size = G) := ⟨_, Lib.hid rfl⟩
  go_upto_region 2 with fail
  clear hst
  rw [HGG.out] at HG2
  try rw [HGG.out]
  try simp only [HGG.out]
  rw [HW.out] at HR2 HB2 HG2 ⊢
  clear HW HR HB HGG
  refine wp_region_held_drew (S := (fun v => Blk v G 73 C)) (by kernel_rfl) ?_ (fun hHeld => ?_)
  · exact HG2.out.drew
  refine' wpAnyH_take (i := 0) (v := ?vr1_0) rfl (by kernel_rfl) (by kernel_rfl) (by kernel_rfl) (fun _ _ _ h => h) (Or.inl ⟨by rfl, ?hyr1_0⟩) (by assumption) ?restr1_0
  case hyr1_0 => (intro w hSw; (try dsimp only at hSw); go_simp; try (with_reducible rfl))
  simp only [Act.put, List.getElem_toArray, List.getElem_cons_succ, List.getElem_cons_zero, List.setIfInBounds_toArray, List.set_cons_zero, List.set_cons_succ]
  refine' wpAnyH_take (i := 1) (v := ?vr1_1) rfl (by kernel_rfl) (by kernel_rfl) (by kernel_rfl) (fun _ _ _ h => h) (Or.inl ⟨by rfl, ?hyr1_1⟩) (by assumption) ?restr1_1
  case hyr1_1 => (intro w hSw; (try dsimp only at hSw); go_simp; try (with_reducible rfl))
  simp only [Act.put, List.getElem_toArray, List.getElem_cons_succ, List.getElem_cons_zero, List.setIfInBounds_toArray, List.set_cons_zero, List.set_cons_succ]
  refine' wpAnyH_take (i := 2) (v := ?vr1_2) rfl (by kernel_rfl) (by kernel_rfl) (by kernel_rfl) (fun _ _ _ h => h) (Or.inl ⟨by rfl, ?hyr1_2⟩) (by assumption) ?restr1_2
  case hyr1_2 => (intro w hSw; (try dsimp only at hSw); go_simp; try (with_reducible rfl))
  simp only [Act.put, List.getElem_toArray, List.getElem_cons_succ, List.getElem_cons_zero, List.setIfInBounds_toArray, List.set_cons_zero, List.set_cons_succ]
  refine wpAnyH_take (i := 3) (v := undef) rfl (by kernel_rfl) (by kernel_rfl) (by kernel_rfl) (fun _ _ _ h => h) (Or.inr ⟨by rfl, rfl⟩) (by assumption) ?_
  simp only [Act.put, List.getElem_toArray, List.getElem_cons_succ, List.getElem_cons_zero, List.setIfInBounds_toArray, List.set_cons_zero, List.set_cons_succ]
  refine wpAnyH_take (i := 4) (v := undef) rfl (by kernel_rfl) (by kernel_rfl) (by kernel_rfl) (fun _ _ _ h => h) (Or.inr ⟨by rfl, rfl⟩) (by assumption) ?_
  simp only [Act.put, List.getElem_toArray, List.getElem_cons_succ, List.getElem_cons_zero, List.setIfInBounds_toArray, List.set_cons_zero, List.set_cons_succ]
  refine wpAnyH_take (i := 5) (v := undef) rfl (by kernel_rfl) (by kernel_rfl) (by kernel_rfl) (fun _ _ _ h => h) (Or.inr ⟨by rfl, rfl⟩) (by assumption) ?_
  simp only [Act.put, List.getElem_toArray, List.getElem_cons_succ, List.getElem_cons_zero, List.setIfInBounds_toArray, List.set_cons_zero, List.set_cons_succ]
  refine wpAnyH_take (i := 6) (v := undef) rfl (by kernel_rfl) (by kernel_rfl) (by kernel_rfl) (fun _ _ _ h => h) (Or.inr ⟨by rfl, rfl⟩) (by assumption) ?_
  simp only [Act.put, List.getElem_toArray, List.getElem_cons_succ, List.getElem_cons_zero, List.setIfInBounds_toArray, List.set_cons_zero, List.set_cons_succ]
  refine wpAnyH_take (i := 7) (v := undef) rfl (by kernel_rfl) (by kernel_rfl) (by kernel_rfl) (fun _ _ _ h => h) (Or.inr ⟨by rfl, rfl⟩) (by assumption) ?_
  simp only [Act.put, List.getElem_toArray, List.getElem_cons_succ, List.getElem_cons_zero, List.setIfInBounds_toArray, List.set_cons_zero, List.set_cons_succ]
  refine wpAnyH_take (i := 8) (v := undef) rfl (by kernel_rfl) (by kernel_rfl) (by kernel_rfl) (fun _ _ _ h => h) (Or.inr ⟨by rfl, rfl⟩) (by assumption) ?_
  simp only [Act.put, List.getElem_toArray, List.getElem_cons_succ, List.getElem_cons_zero, List.setIfInBounds_toArray, List.set_cons_zero, List.set_cons_succ]
  refine wpAnyH_take (i := 9) (v := undef) rfl (by kernel_rfl) (by kernel_rfl) (by kernel_rfl) (fun _ _ _ h => h) (Or.inr ⟨by rfl, rfl⟩) (by assumption) ?_
  simp only [Act.put, List.getElem_toArray, List.getElem_cons_succ, List.getElem_cons_zero, List.setIfInBounds_toArray, List.set_cons_zero, List.set_cons_succ]
  refine' wpAnyH_take (i := 10) (v := ?vr1_10) rfl (by kernel_rfl) (by kernel_rfl) (by kernel_rfl) (fun _ _ _ h => h) (Or.inl ⟨by rfl, ?hyr1_10⟩) (by assumption) ?restr1_10
  case hyr1_10 => (intro w hSw; (try dsimp only at hSw); go_simp; try (with_reducible rfl))
  simp only [Act.put, List.getElem_toArray, List.getElem_cons_succ, List.getElem_cons_zero, List.setIfInBounds_toArray, List.set_cons_zero, List.set_cons_succ]
  refine' wpAnyH_take (i := 11) (v := ?vr1_11) rfl (by kernel_rfl) (by kernel_rfl) (by kernel_rfl) (fun _ _ _ h => h) (Or.inl ⟨by rfl, ?hyr1_11⟩) (by assumption) ?restr1_11
  case hyr1_11 => (intro w hSw; (try dsimp only at hSw); go_simp; try (with_reducible rfl))
  simp only [Act.put, List.getElem_toArray, List.getElem_cons_succ, List.getElem_cons_zero, List.setIfInBounds_toArray, List.set_cons_zero, List.set_cons_succ]
  refine wpAnyH_take (i := 12) (v := undef) rfl (by kernel_rfl) (by kernel_rfl) (by kernel_rfl) (fun _ _ _ h => h) (Or.inr ⟨by rfl, rfl⟩) (by assumption) ?_
  simp only [Act.put, List.getElem_toArray, List.getElem_cons_succ, List.getElem_cons_zero, List.setIfInBounds_toArray, List.set_cons_zero, List.set_cons_succ]
  refine wpAnyH_take (i := 13) (v := undef) rfl (by kernel_rfl) (by kernel_rfl) (by kernel_rfl) (fun _ _ _ h => h) (Or.inr ⟨by rfl, rfl⟩) (by assumption) ?_
  simp only [Act.put, List.getElem_toArray, List.getElem_cons_succ, List.getElem_cons_zero, List.setIfInBounds_toArray, List.set_cons_zero, List.set_cons_succ]
  refine wpAnyH_take (i := 14) (v := undef) rfl (by kernel_rfl) (by kernel_rfl) (by kernel_rfl) (fun _ _ _ h => h) (Or.inr ⟨by rfl, rfl⟩) (by assumption) ?_
  simp only [Act.put, List.getElem_toArray, List.getElem_cons_succ, List.getElem_cons_zero, List.setIfInBounds_toArray, List.set_cons_zero, List.set_cons_succ]
  refine wpAnyH_take (i := 15) (v := undef) rfl (by kernel_rfl) (by kernel_rfl) (by kernel_rfl) (fun _ _ _ h => h) (Or.inr ⟨by rfl, rfl⟩) (by assumption) ?_
  simp only [Act.put, List.getElem_toArray, List.getElem_cons_succ, List.getElem_cons_zero, List.setIfInBounds_toArray, List.set_cons_zero, List.set_cons_succ]
  refine wpAnyH_take (i := 16) (v := undef) rfl (by kernel_rfl) (by kernel_rfl) (by kernel_rfl) (fun _ _ _ h => h) (Or.inr ⟨by rfl, rfl⟩) (by assumption) ?_
  simp only [Act.put, List.getElem_toArray, List.getElem_cons_succ, List.getElem_cons_zero, List.setIfInBounds_toArray, List.set_cons_zero, List.set_cons_succ]
  refine wpAnyH_take (i := 17) (v := undef) rfl (by kernel_rfl) (by kernel_rfl) (by kernel_rfl) (fun _ _ _ h => h) (Or.inr ⟨by rfl, rfl⟩) (by assumption) ?_
  simp only [Act.put, List.getElem_toArray, List.getElem_cons_succ, List.getElem_cons_zero, List.setIfInBounds_toArray, List.set_cons_zero, List.set_cons_succ]
  refine wpAnyH_take (i := 18) (v := undef) rfl (by kernel_rfl) (by kernel_rfl) (by kernel_rfl) (fun _ _ _ h => h) (Or.inr ⟨by rfl, rfl⟩) (by assumption) ?_
  simp only [Act.put, List.getElem_toArray, List.getElem_cons_succ, List.getElem_cons_zero, List.setIfInBounds_toArray, List.set_cons_zero, List.set_cons_succ]
  refine' wpAnyH_take (i := 19) (v := ?vr1_19) rfl (by kernel_rfl) (by kernel_rfl) (by kernel_rfl) (fun _ _ _ h => h) (Or.inl ⟨by rfl, ?hyr1_19⟩) (by assumption) ?restr1_19
  case hyr1_19 => (intro w hSw; (try dsimp only at hSw); go_simp; try (with_reducible rfl))
  simp only [Act.put, List.getElem_toArray, List.getElem_cons_succ, List.getElem_cons_zero, List.setIfInBounds_toArray, List.set_cons_zero, List.set_cons_succ]
  refine wpAnyH_done (by kernel_rfl) ?_ _
  obtain ⟨Wd, HWd⟩ : ∃ V, Hid (W.drew = V) := ⟨_, Lib.hid rfl⟩
  have HRZ := Lib.hid (show Blk Wd w.heap.size 35 #[.int .i64 0, .int .i64 0, .int .i64 0] by rw [← HWd.out]; exact HR2.out.drew)
  have HBZ := Lib.hid (show Below w.heap.size w Wd by rw [← HWd.out]; exact HB2.out.drew)
  rw [HWd.out]
  clear hHeld HWd
  have c0 := HRZ.out.cell 0
  have c1 := HRZ.out.cell 1
  have c2 := HRZ.out.cell 2
  have f0 := HRZ.out.frozen 0
  have f1 := HRZ.out.frozen 1
  have f2 := HRZ.out.frozen 2
  have hl := HRZ.out.lt
  go_wp2_with fail
  refine bodyPost_ret (v := .tuple #[.agg #[.int .i64 0, .int .i64 0, .int .i64 0], .bool false]) (by simp [results, Tryd.results43, go_sem, c0, c1, c2, hl]) rfl ⟨rfl, ?_⟩
  exact ((HBZ.out.setCell (by simp) _).setCell (by simp) _).setCell (by simp) _
set_option maxHeartbeats 16000000 in
set_option maxRecDepth 100000 in
theorem err_out (A : Option Addr) (n cap : Nat) (ts : List Lg) (z : Int) (C : Array Value) (w : World) (hn : n ≤ 2000000) (HC : Hid (nv (netS ts) (clS ts) = C)) (hts : Hid (LgAt w w.heap.size A n ts)) (hT : Hid (Tab w)) (HG : Hid (goodLg ts = true)) (HZ : Hid (btw 0 z ((n : Int) - 1) = false)) :
    Calls Tryd.prog 43 #[.slice A n cap, .int .i64 z] w (APost (.tuple #[.agg #[.int .i64 0, .int .i64 0, .int .i64 0], .bool false]) w) := by
  have hn12 : n ≤ 12 := by have h := hts.out.1; rw [← h]; exact goodLg_len HG.out
  have hcz : C.size = 56 := by rw [← HC.out]; exact nv_size (nok_S ts)
  have HC1 := Lib.hid (show C.all (·.oneCell') = true by rw [← HC.out]; exact nv_one)
  have HA := Lib.hid (hts.out.alloc (.cells #[.int .i64 0, .int .i64 0, .int .i64 0] 35))
  have HT0 := Lib.hid (hT.out.alloc (.cells #[.int .i64 0, .int .i64 0, .int .i64 0] 35))
  have H1 := Lib.hid (one_in HZ.out)
  go_enter Tryd.func43, Tryd.ntmps43
  go_wp2_with fail
  refine (net_any A n cap ts C true HC HG _ hn HA HT0).mono ?_
  rintro e w1 ⟨rfl, b1⟩
  have HR := Lib.hid ((Blk.new w 35 #[.int .i64 0, .int .i64 0, .int .i64 0]).below b1 (by simp))
  have HB := Lib.hid (((Below.refl w.heap.size w).alloc (Nat.le_refl _) (.cells #[.int .i64 0, .int .i64 0, .int .i64 0] 35)).trans (b1.mono (by simp)))
  clear b1
  have hst := lay_net hcz HC1.out w1
  have HR2 := Lib.hid (HR.out.alloc (.cells C 73))
  have HB2 := Lib.hid (HB.out.alloc HB.out.size (.cells C 73))
  have HG2 := Lib.hid (Blk.new w1 73 C)
  obtain ⟨W, HW⟩ : ∃ W, Hid (w1.alloc (.cells C 73) = W) := ⟨_, Lib.hid rfl⟩
  obtain ⟨G, HGG⟩ : ∃ G, Hid (w1.heap.size = G) := ⟨_, Lib.hid rfl⟩
  go_upto_region 2 with fail
  clear hst
  rw [HGG.out] at HG2
  try rw [HGG.out]
  try simp only [HGG.out]
  rw [HW.out] at HR2 HB2 HG2 ⊢
  clear HW HR HB HGG
  refine wp_region_held_drew (S := (fun v => Blk v G 73 C)) (by kernel_rfl) ?_ (fun hHeld => ?_)
  · exact HG2.out.drew
  refine' wpAnyH_take (i := 0) (v := ?vr2_0) rfl (by kernel_rfl) (by kernel_rfl) (by kernel_rfl) (fun _ _ _ h => h) (Or.inl ⟨by rfl, ?hyr2_0⟩) (by assumption) ?restr2_0
  case hyr2_0 => (intro w hSw; (try dsimp only at hSw); go_simp; try (with_reducible rfl))
  simp only [Act.put, List.getElem_toArray, List.getElem_cons_succ, List.getElem_cons_zero, List.setIfInBounds_toArray, List.set_cons_zero, List.set_cons_succ]
  refine' wpAnyH_take (i := 1) (v := ?vr2_1) rfl (by kernel_rfl) (by kernel_rfl) (by kernel_rfl) (fun _ _ _ h => h) (Or.inl ⟨by rfl, ?hyr2_1⟩) (by assumption) ?restr2_1
  case hyr2_1 => (intro w hSw; (try dsimp only at hSw); go_simp; try (with_reducible rfl))
  simp only [Act.put, List.getElem_toArray, List.getElem_cons_succ, List.getElem_cons_zero, List.setIfInBounds_toArray, List.set_cons_zero, List.set_cons_succ]
  refine' wpAnyH_take (i := 2) (v := ?vr2_2) rfl (by kernel_rfl) (by kernel_rfl) (by kernel_rfl) (fun _ _ _ h => h) (Or.inl ⟨by rfl, ?hyr2_2⟩) (by assumption) ?restr2_2
  case hyr2_2 => (intro w hSw; (try dsimp only at hSw); go_simp; try (with_reducible rfl))
  simp only [Act.put, List.getElem_toArray, List.getElem_cons_succ, List.getElem_cons_zero, List.setIfInBounds_toArray, List.set_cons_zero, List.set_cons_succ]
  refine' wpAnyH_take (i := 3) (v := ?vr2_3) rfl (by kernel_rfl) (by kernel_rfl) (by kernel_rfl) (fun _ _ _ h => h) (Or.inl ⟨by rfl, ?hyr2_3⟩) (by assumption) ?restr2_3
  case hyr2_3 => (intro w hSw; (try dsimp only at hSw); go_simp; try (with_reducible rfl))
  simp only [Act.put, List.getElem_toArray, List.getElem_cons_succ, List.getElem_cons_zero, List.setIfInBounds_toArray, List.set_cons_zero, List.set_cons_succ]
  refine' wpAnyH_take (i := 4) (v := ?vr2_4) rfl (by kernel_rfl) (by kernel_rfl) (by kernel_rfl) (fun _ _ _ h => h) (Or.inl ⟨by rfl, ?hyr2_4⟩) (by assumption) ?restr2_4
  case hyr2_4 => (intro w hSw; (try dsimp only at hSw); go_simp; try (with_reducible rfl))
  simp only [Act.put, List.getElem_toArray, List.getElem_cons_succ, List.getElem_cons_zero, List.setIfInBounds_toArray, List.set_cons_zero, List.set_cons_succ]
  refine' wpAnyH_take (i := 5) (v := .int .i64 ((n : Int) - 1)) rfl (by kernel_rfl) (by kernel_rfl) (by kernel_rfl) (fun _ _ _ h => h) (Or.inl ⟨by rfl, ?hyn5⟩) (by assumption) ?restn5
  case hyn5 =>
    intro v hSv
    go_simp
    exact IntWalk.i64_in _ (by omega)
  simp only [Act.put, List.getElem_toArray, List.getElem_cons_succ, List.getElem_cons_zero, List.setIfInBounds_toArray, List.set_cons_zero, List.set_cons_succ]
  refine' wpAnyH_take (i := 6) (v := ?vr2_6) rfl (by kernel_rfl) (by kernel_rfl) (by kernel_rfl) (fun _ _ _ h => h) (Or.inl ⟨by rfl, ?hyr2_6⟩) (by assumption) ?restr2_6
  case hyr2_6 => (intro w hSw; (try dsimp only at hSw); go_simp; try (with_reducible rfl))
  simp only [Act.put, List.getElem_toArray, List.getElem_cons_succ, List.getElem_cons_zero, List.setIfInBounds_toArray, List.set_cons_zero, List.set_cons_succ]
  refine wpAnyH_ready (rs := [7]) (by kernel_rfl) (by simp) ?_
  refine AllReadyH.cons rfl (fun K hK => ?_) AllReadyH.nil
  go_simp
  refine hK.out _ _ ((hHeld.alloc _).drew) (fun hHeld1 => ?_)
  clear hK K hHeld
  have hHeld := hHeld1
  clear hHeld1
  try simp only [Act.put, List.getElem_toArray, List.getElem_cons_succ, List.getElem_cons_zero, List.setIfInBounds_toArray, List.set_cons_zero, List.set_cons_succ]
  refine wpAnyH_ready (rs := [8]) (by kernel_rfl) (by simp) ?_
  refine AllReadyH.cons rfl (fun K hK => ?_) AllReadyH.nil
  go_simp
  refine (within_dr _ _ z false _ _ rfl H1.out).mono ?_
  rintro e w3 ⟨rfl, hw⟩
  have HW3 := Lib.hid hw
  clear hw
  have HRZ := Lib.hid (show Blk w3 w.heap.size 35 #[.int .i64 0, .int .i64 0, .int .i64 0] by rw [← HW3.out]; exact (HR2.out.alloc _).drew)
  have HBZ := Lib.hid (show Below w.heap.size w w3 by rw [← HW3.out]; exact (HB2.out.alloc HB2.out.size _).drew)
  refine hK.out _ _ ((by rw [← HW3.out]; exact hHeld)) (fun hHeld1 => ?_)
  clear hK K hHeld
  have hHeld := hHeld1
  clear hHeld1
  try simp only [Act.put, List.getElem_toArray, List.getElem_cons_succ, List.getElem_cons_zero, List.setIfInBounds_toArray, List.set_cons_zero, List.set_cons_succ]
  refine' wpAnyH_take (i := 9) (v := ?vr2_9) rfl (by kernel_rfl) (by kernel_rfl) (by kernel_rfl) (fun _ _ _ h => h) (Or.inl ⟨by rfl, ?hyr2_9⟩) (by assumption) ?restr2_9
  case hyr2_9 => (intro w hSw; (try dsimp only at hSw); go_simp; try (with_reducible rfl))
  simp only [Act.put, List.getElem_toArray, List.getElem_cons_succ, List.getElem_cons_zero, List.setIfInBounds_toArray, List.set_cons_zero, List.set_cons_succ]
  refine' wpAnyH_take (i := 10) (v := ?vr2_10) rfl (by kernel_rfl) (by kernel_rfl) (by kernel_rfl) (fun _ _ _ h => h) (Or.inl ⟨by rfl, ?hyr2_10⟩) (by assumption) ?restr2_10
  case hyr2_10 => (intro w hSw; (try dsimp only at hSw); go_simp; try (with_reducible rfl))
  simp only [Act.put, List.getElem_toArray, List.getElem_cons_succ, List.getElem_cons_zero, List.setIfInBounds_toArray, List.set_cons_zero, List.set_cons_succ]
  refine' wpAnyH_take (i := 11) (v := ?vr2_11) rfl (by kernel_rfl) (by kernel_rfl) (by kernel_rfl) (fun _ _ _ h => h) (Or.inl ⟨by rfl, ?hyr2_11⟩) (by assumption) ?restr2_11
  case hyr2_11 => (intro w hSw; (try dsimp only at hSw); go_simp; try (with_reducible rfl))
  simp only [Act.put, List.getElem_toArray, List.getElem_cons_succ, List.getElem_cons_zero, List.setIfInBounds_toArray, List.set_cons_zero, List.set_cons_succ]
  refine wpAnyH_take (i := 12) (v := undef) rfl (by kernel_rfl) (by kernel_rfl) (by kernel_rfl) (fun _ _ _ h => h) (Or.inr ⟨by rfl, rfl⟩) (by assumption) ?_
  simp only [Act.put, List.getElem_toArray, List.getElem_cons_succ, List.getElem_cons_zero, List.setIfInBounds_toArray, List.set_cons_zero, List.set_cons_succ]
  refine wpAnyH_take (i := 13) (v := undef) rfl (by kernel_rfl) (by kernel_rfl) (by kernel_rfl) (fun _ _ _ h => h) (Or.inr ⟨by rfl, rfl⟩) (by assumption) ?_
  simp only [Act.put, List.getElem_toArray, List.getElem_cons_succ, List.getElem_cons_zero, List.setIfInBounds_toArray, List.set_cons_zero, List.set_cons_succ]
  refine wpAnyH_take (i := 14) (v := undef) rfl (by kernel_rfl) (by kernel_rfl) (by kernel_rfl) (fun _ _ _ h => h) (Or.inr ⟨by rfl, rfl⟩) (by assumption) ?_
  simp only [Act.put, List.getElem_toArray, List.getElem_cons_succ, List.getElem_cons_zero, List.setIfInBounds_toArray, List.set_cons_zero, List.set_cons_succ]
  refine wpAnyH_take (i := 15) (v := undef) rfl (by kernel_rfl) (by kernel_rfl) (by kernel_rfl) (fun _ _ _ h => h) (Or.inr ⟨by rfl, rfl⟩) (by assumption) ?_
  simp only [Act.put, List.getElem_toArray, List.getElem_cons_succ, List.getElem_cons_zero, List.setIfInBounds_toArray, List.set_cons_zero, List.set_cons_succ]
  refine wpAnyH_take (i := 16) (v := undef) rfl (by kernel_rfl) (by kernel_rfl) (by kernel_rfl) (fun _ _ _ h => h) (Or.inr ⟨by rfl, rfl⟩) (by assumption) ?_
  simp only [Act.put, List.getElem_toArray, List.getElem_cons_succ, List.getElem_cons_zero, List.setIfInBounds_toArray, List.set_cons_zero, List.set_cons_succ]
  refine wpAnyH_take (i := 17) (v := undef) rfl (by kernel_rfl) (by kernel_rfl) (by kernel_rfl) (fun _ _ _ h => h) (Or.inr ⟨by rfl, rfl⟩) (by assumption) ?_
  simp only [Act.put, List.getElem_toArray, List.getElem_cons_succ, List.getElem_cons_zero, List.setIfInBounds_toArray, List.set_cons_zero, List.set_cons_succ]
  refine wpAnyH_take (i := 18) (v := undef) rfl (by kernel_rfl) (by kernel_rfl) (by kernel_rfl) (fun _ _ _ h => h) (Or.inr ⟨by rfl, rfl⟩) (by assumption) ?_
  simp only [Act.put, List.getElem_toArray, List.getElem_cons_succ, List.getElem_cons_zero, List.setIfInBounds_toArray, List.set_cons_zero, List.set_cons_succ]
  refine' wpAnyH_take (i := 19) (v := ?vr2_19) rfl (by kernel_rfl) (by kernel_rfl) (by kernel_rfl) (fun _ _ _ h => h) (Or.inl ⟨by rfl, ?hyr2_19⟩) (by assumption) ?restr2_19
  case hyr2_19 => (intro w hSw; (try dsimp only at hSw); go_simp; try (with_reducible rfl))
  simp only [Act.put, List.getElem_toArray, List.getElem_cons_succ, List.getElem_cons_zero, List.setIfInBounds_toArray, List.set_cons_zero, List.set_cons_succ]
  refine wpAnyH_done (by kernel_rfl) ?_ _
  clear hHeld HW3
  have c0 := HRZ.out.cell 0
  have c1 := HRZ.out.cell 1
  have c2 := HRZ.out.cell 2
  have f0 := HRZ.out.frozen 0
  have f1 := HRZ.out.frozen 1
  have f2 := HRZ.out.frozen 2
  have hl := HRZ.out.lt
  go_wp2_with fail
  refine bodyPost_ret (v := .tuple #[.agg #[.int .i64 0, .int .i64 0, .int .i64 0], .bool false]) (by simp [results, Tryd.results43, go_sem, c0, c1, c2, hl]) rfl ⟨rfl, ?_⟩
  exact ((HBZ.out.setCell (by simp) _).setCell (by simp) _).setCell (by simp) _
end Go.Proofs.YtkeepfkjhcmhlaaDoor.nq

namespace Go.Proofs.YtkeepfkjhcmhlaaDoor.nq
open Go.RowKit
open reads base ty lg lgi win hs nt rowi sn
set_option linter.unusedVariables false
set_option linter.unusedSimpArgs false

theorem sf_ext' {a b : Sf} (h1 : a.east = b.east) (h2 : a.north = b.north) (h3 : a.up = b.up) : a = b := by cases a; cases b; simp_all
theorem err_eq (s h p q : Sf) (hq : sub3 q p = s) : sub3 h s = add3 (sub3 h q) p := by
  subst hq
  exact sf_ext' (by unfold sub3 add3; simp only []; omega) (by unfold sub3 add3; simp only []; omega) (by unfold sub3 add3; simp only []; omega)
set_option maxHeartbeats 16000000 in
set_option maxRecDepth 100000 in
theorem err_in (A : Option Addr) (n cap k : Nat) (x : Lg) (t : Bool) (ts : List Lg) (C : Array Value) (w : World) (hn : n ≤ 2000000) (HC : Hid (nv (netS ts) (clS ts) = C)) (hts : Hid (LgAt w w.heap.size A n ts)) (hT : Hid (Tab w)) (HG : Hid (goodLg ts = true)) (HX : Hid (ts[k]? = some x)) (HM : Hid (mem (net ts).ps x.frm = t)) (VV : Value) (HV : Hid ((if t then .tuple #[.agg #[.int .i64 (errV ts x).east, .int .i64 (errV ts x).north, .int .i64 (errV ts x).up], .bool true] else .tuple #[.agg #[.int .i64 0, .int .i64 0, .int .i64 0], .bool false]) = VV)) :
    Calls Tryd.prog 43 #[.slice A n cap, .int .i64 (k : Int)] w (APost VV w) := by
  have hL := hts.out.1
  have hn12 : n ≤ 12 := by rw [← hL]; exact goodLg_len HG.out
  have hkn : k < n := by rw [← hL]; exact (List.getElem?_eq_some_iff.1 HX.out).1
  have hk0 : (0 : Int) ≤ (k : Int) := by omega
  have hkn' : (k : Int) < (n : Int) := by omega
  have hkd : decide (k < n) = true := by simpa using hkn
  clear hL
  have H1 := Lib.hid (one_in (show btw 0 (k : Int) ((n : Int) - 1) = true from btw_mk (by omega) (by omega)))
  have HOK := Lib.hid (goodLg_at HG.out HX.out)
  have HNS := Lib.hid (show netS ts = net ts by unfold netS; rw [HG.out]; rfl)
  have HP1 := Lib.hid (show mem (netS ts).ps x.frm = t by rw [HNS.out]; exact HM.out)
  have HP2 := Lib.hid (show mem (netS ts).ps x.to_ = t by rw [HNS.out, ← net_ends HG.out HX.out]; exact HM.out)
  obtain ⟨gL, hA0, hgL, e0, e1, e2, e3, e4⟩ := hts.out.2 k x HX.out
  have HLL := Lib.hid (show (w.cell? ⟨gL, k * 5, none⟩ = some (.int .i64 x.frm) ∧ w.cell? ⟨gL, k * 5 + 1, none⟩ = some (.int .i64 x.to_) ∧ w.cell? ⟨gL, k * 5 + 2, none⟩ = some (.int .i64 x.tape) ∧ w.cell? ⟨gL, k * 5 + 3, none⟩ = some (.int .i64 x.comp) ∧ w.cell? ⟨gL, k * 5 + 4, none⟩ = some (.int .i64 x.slope)) ∧ gL < w.heap.size from ⟨⟨e0, e1, e2, e3, e4⟩, hgL⟩)
  clear e0 e1 e2 e3 e4 hgL
  subst hA0
  have hcz : C.size = 56 := by rw [← HC.out]; exact nv_size (nok_S ts)
  have HC1 := Lib.hid (show C.all (·.oneCell') = true by rw [← HC.out]; exact nv_one)
  have HA := Lib.hid (hts.out.alloc (.cells #[.int .i64 0, .int .i64 0, .int .i64 0] 35))
  have HT0 := Lib.hid (hT.out.alloc (.cells #[.int .i64 0, .int .i64 0, .int .i64 0] 35))
  go_enter Tryd.func43, Tryd.ntmps43
  go_wp2_with fail
  refine (net_any (some ⟨gL, 0, none⟩) n cap ts C true HC HG _ hn HA HT0).mono ?_
  rintro e w1 ⟨rfl, b1⟩
  have HR := Lib.hid ((Blk.new w 35 #[.int .i64 0, .int .i64 0, .int .i64 0]).below b1 (by simp))
  have HB := Lib.hid (((Below.refl w.heap.size w).alloc (Nat.le_refl _) (.cells #[.int .i64 0, .int .i64 0, .int .i64 0] 35)).trans (b1.mono (by simp)))
  clear b1
  have hst := lay_net hcz HC1.out w1
  have HR2 := Lib.hid (HR.out.alloc (.cells C 73))
  have HB2 := Lib.hid (HB.out.alloc HB.out.size (.cells C 73))
  have HG2 := Lib.hid (Blk.new w1 73 C)
  obtain ⟨W, HW⟩ : ∃ W, Hid (w1.alloc (.cells C 73) = W) := ⟨_, Lib.hid rfl⟩
  obtain ⟨G, HGG⟩ : ∃ G, Hid (w1.heap.size = G) := ⟨_, Lib.hid rfl⟩
  go_upto_region 2 with fail
  clear hst
  rw [HGG.out] at HG2
  try rw [HGG.out]
  try simp only [HGG.out]
  rw [HW.out] at HR2 HB2 HG2 ⊢
  clear HW HR HB HGG
  have HLW := Lib.hid (show LW gL k G x C W by
    obtain ⟨⟨e0, e1, e2, e3, e4⟩, l⟩ := HLL.out
    have A : ∀ o, W.cell? ⟨gL, o, none⟩ = w.cell? ⟨gL, o, none⟩ := fun o => HB2.out.cell (p := ⟨gL, o, none⟩) l
    exact ⟨⟨(A _).trans e0, (A _).trans e1, (A _).trans e2, (A _).trans e3, (A _).trans e4⟩, by have := HB2.out.size; omega, HG2.out⟩)
  clear HLL HG2
  refine wp_region_held_drew (S := (fun v => v.cell? ⟨gL, k * 5, none⟩ = some (.int .i64 x.frm) ∧ v.cell? ⟨gL, k * 5 + 1, none⟩ = some (.int .i64 x.to_) ∧ v.cell? ⟨gL, k * 5 + 2, none⟩ = some (.int .i64 x.tape) ∧ v.cell? ⟨gL, k * 5 + 3, none⟩ = some (.int .i64 x.comp) ∧ v.cell? ⟨gL, k * 5 + 4, none⟩ = some (.int .i64 x.slope) ∧ LW gL k G x C v)) (by kernel_rfl) ?_ (fun hHeld => ?_)
  · exact (HLW.out.step (Below.refl _ _).drew).mk6
  refine' wpAnyH_take (i := 0) (v := ?vr3_0) rfl (by kernel_rfl) (by kernel_rfl) (by kernel_rfl) (fun _ _ _ h => h) (Or.inl ⟨by rfl, ?hyr3_0⟩) (by assumption) ?restr3_0
  case hyr3_0 => (intro w hSw; (try dsimp only at hSw); go_simp; try (with_reducible rfl))
  simp only [Act.put, List.getElem_toArray, List.getElem_cons_succ, List.getElem_cons_zero, List.setIfInBounds_toArray, List.set_cons_zero, List.set_cons_succ]
  refine' wpAnyH_take (i := 1) (v := ?vr3_1) rfl (by kernel_rfl) (by kernel_rfl) (by kernel_rfl) (fun _ _ _ h => h) (Or.inl ⟨by rfl, ?hyr3_1⟩) (by assumption) ?restr3_1
  case hyr3_1 => (intro w hSw; (try dsimp only at hSw); go_simp; try (with_reducible rfl))
  simp only [Act.put, List.getElem_toArray, List.getElem_cons_succ, List.getElem_cons_zero, List.setIfInBounds_toArray, List.set_cons_zero, List.set_cons_succ]
  refine' wpAnyH_take (i := 2) (v := ?vr3_2) rfl (by kernel_rfl) (by kernel_rfl) (by kernel_rfl) (fun _ _ _ h => h) (Or.inl ⟨by rfl, ?hyr3_2⟩) (by assumption) ?restr3_2
  case hyr3_2 => (intro w hSw; (try dsimp only at hSw); go_simp; try (with_reducible rfl))
  simp only [Act.put, List.getElem_toArray, List.getElem_cons_succ, List.getElem_cons_zero, List.setIfInBounds_toArray, List.set_cons_zero, List.set_cons_succ]
  refine' wpAnyH_take (i := 3) (v := ?vr3_3) rfl (by kernel_rfl) (by kernel_rfl) (by kernel_rfl) (fun _ _ _ h => h) (Or.inl ⟨by rfl, ?hyr3_3⟩) (by assumption) ?restr3_3
  case hyr3_3 => (intro w hSw; (try dsimp only at hSw); go_simp; try (with_reducible rfl))
  simp only [Act.put, List.getElem_toArray, List.getElem_cons_succ, List.getElem_cons_zero, List.setIfInBounds_toArray, List.set_cons_zero, List.set_cons_succ]
  refine' wpAnyH_take (i := 4) (v := ?vr3_4) rfl (by kernel_rfl) (by kernel_rfl) (by kernel_rfl) (fun _ _ _ h => h) (Or.inl ⟨by rfl, ?hyr3_4⟩) (by assumption) ?restr3_4
  case hyr3_4 => (intro w hSw; (try dsimp only at hSw); go_simp; try (with_reducible rfl))
  simp only [Act.put, List.getElem_toArray, List.getElem_cons_succ, List.getElem_cons_zero, List.setIfInBounds_toArray, List.set_cons_zero, List.set_cons_succ]
  refine' wpAnyH_take (i := 5) (v := .int .i64 ((n : Int) - 1)) rfl (by kernel_rfl) (by kernel_rfl) (by kernel_rfl) (fun _ _ _ h => h) (Or.inl ⟨by rfl, ?hyn5⟩) (by assumption) ?restn5
  case hyn5 =>
    intro v hSv
    go_simp
    exact IntWalk.i64_in _ (by omega)
  simp only [Act.put, List.getElem_toArray, List.getElem_cons_succ, List.getElem_cons_zero, List.setIfInBounds_toArray, List.set_cons_zero, List.set_cons_succ]
  refine' wpAnyH_take (i := 6) (v := ?vr3_6) rfl (by kernel_rfl) (by kernel_rfl) (by kernel_rfl) (fun _ _ _ h => h) (Or.inl ⟨by rfl, ?hyr3_6⟩) (by assumption) ?restr3_6
  case hyr3_6 => (intro w hSw; (try dsimp only at hSw); go_simp; try (with_reducible rfl))
  simp only [Act.put, List.getElem_toArray, List.getElem_cons_succ, List.getElem_cons_zero, List.setIfInBounds_toArray, List.set_cons_zero, List.set_cons_succ]
  refine wpAnyH_ready (rs := [7]) (by kernel_rfl) (by simp) ?_
  refine AllReadyH.cons rfl (fun K hK => ?_) AllReadyH.nil
  go_simp
  refine hK.out _ _ ((hHeld.2.2.2.2.2.step (((Below.refl _ _).alloc (Nat.le_refl _) _).drew)).mk6) (fun hHeld1 => ?_)
  clear hK K hHeld
  have hHeld := hHeld1
  clear hHeld1
  try simp only [Act.put, List.getElem_toArray, List.getElem_cons_succ, List.getElem_cons_zero, List.setIfInBounds_toArray, List.set_cons_zero, List.set_cons_succ]
  refine wpAnyH_ready (rs := [8]) (by kernel_rfl) (by simp) ?_
  refine AllReadyH.cons rfl (fun K hK => ?_) AllReadyH.nil
  go_simp
  refine (within_dr _ _ (k : Int) true _ _ rfl H1.out).mono ?_
  rintro e w3 ⟨rfl, hw⟩
  have HW3 := Lib.hid hw
  clear hw
  have HR4 := Lib.hid (show Blk w3 w.heap.size 35 #[.int .i64 0, .int .i64 0, .int .i64 0] by rw [← HW3.out]; exact (HR2.out.alloc _).drew)
  have HB4 := Lib.hid (show Below w.heap.size w w3 by rw [← HW3.out]; exact (HB2.out.alloc HB2.out.size _).drew)
  have HL4 := Lib.hid (show LW gL k G x C w3 by rw [← HW3.out]; exact hHeld.2.2.2.2.2)
  refine hK.out _ _ ((by rw [← HW3.out]; exact hHeld)) (fun hHeld1 => ?_)
  clear hK K hHeld
  have hHeld := hHeld1
  clear hHeld1
  try simp only [Act.put, List.getElem_toArray, List.getElem_cons_succ, List.getElem_cons_zero, List.setIfInBounds_toArray, List.set_cons_zero, List.set_cons_succ]
  refine' wpAnyH_take (i := 9) (v := ?vr3_9) rfl (by kernel_rfl) (by kernel_rfl) (by kernel_rfl) (fun _ _ _ h => h) (Or.inl ⟨by rfl, ?hyr3_9⟩) (by assumption) ?restr3_9
  case hyr3_9 => (intro w hSw; (try dsimp only at hSw); go_simp; try (with_reducible rfl))
  simp only [Act.put, List.getElem_toArray, List.getElem_cons_succ, List.getElem_cons_zero, List.setIfInBounds_toArray, List.set_cons_zero, List.set_cons_succ]
  refine' wpAnyH_take (i := 10) (v := ?vr3_10) rfl (by kernel_rfl) (by kernel_rfl) (by kernel_rfl) (fun _ _ _ h => h) (Or.inl ⟨by rfl, ?hyr3_10⟩) (by assumption) ?restr3_10
  case hyr3_10 => (intro w hSw; (try dsimp only at hSw); go_simp; try (with_reducible rfl))
  simp only [Act.put, List.getElem_toArray, List.getElem_cons_succ, List.getElem_cons_zero, List.setIfInBounds_toArray, List.set_cons_zero, List.set_cons_succ]
  refine' wpAnyH_take (i := 11) (v := ?vr3_11) rfl (by kernel_rfl) (by kernel_rfl) (by kernel_rfl) (fun _ _ _ h => h) (Or.inl ⟨by rfl, ?hyr3_11⟩) (by assumption) ?restr3_11
  case hyr3_11 => (intro w hSw; (try dsimp only at hSw); go_simp; try (with_reducible rfl))
  simp only [Act.put, List.getElem_toArray, List.getElem_cons_succ, List.getElem_cons_zero, List.setIfInBounds_toArray, List.set_cons_zero, List.set_cons_succ]
  refine' wpAnyH_take (i := 12) (v := .agg C) rfl (by kernel_rfl) (by kernel_rfl) (by kernel_rfl) (fun _ _ _ h => h) (Or.inl ⟨by rfl, fun v hSv => exec_load rfl rfl hSv.2.2.2.2.2.2.2 hcz⟩) (by assumption) ?_
  simp only [Act.put, List.getElem_toArray, List.getElem_cons_succ, List.getElem_cons_zero, List.setIfInBounds_toArray, List.set_cons_zero, List.set_cons_succ]
  refine' wpAnyH_take (i := 13) (v := ?vr3_13) rfl (by kernel_rfl) (by kernel_rfl) (by kernel_rfl) (fun _ _ _ h => h) (Or.inl ⟨by rfl, ?hyr3_13⟩) (by assumption) ?restr3_13
  case hyr3_13 => (intro w hSw; (try dsimp only at hSw); go_simp; try (with_reducible rfl))
  simp only [Act.put, List.getElem_toArray, List.getElem_cons_succ, List.getElem_cons_zero, List.setIfInBounds_toArray, List.set_cons_zero, List.set_cons_succ]
  refine' wpAnyH_take (i := 14) (v := ?vr3_14) rfl (by kernel_rfl) (by kernel_rfl) (by kernel_rfl) (fun _ _ _ h => h) (Or.inl ⟨by rfl, ?hyr3_14⟩) (by assumption) ?restr3_14
  case hyr3_14 => (intro w hSw; (try dsimp only at hSw); go_simp; try (with_reducible rfl))
  simp only [Act.put, List.getElem_toArray, List.getElem_cons_succ, List.getElem_cons_zero, List.setIfInBounds_toArray, List.set_cons_zero, List.set_cons_succ]
  refine' wpAnyH_take (i := 15) (v := ?vr3_15) rfl (by kernel_rfl) (by kernel_rfl) (by kernel_rfl) (fun _ _ _ h => h) (Or.inl ⟨by rfl, ?hyr3_15⟩) (by assumption) ?restr3_15
  case hyr3_15 => (intro w hSw; (try dsimp only at hSw); go_simp; try (with_reducible rfl))
  simp only [Act.put, List.getElem_toArray, List.getElem_cons_succ, List.getElem_cons_zero, List.setIfInBounds_toArray, List.set_cons_zero, List.set_cons_succ]
  refine' wpAnyH_take (i := 16) (v := ?vr3_16) rfl (by kernel_rfl) (by kernel_rfl) (by kernel_rfl) (fun _ _ _ h => h) (Or.inl ⟨by rfl, ?hyr3_16⟩) (by assumption) ?restr3_16
  case hyr3_16 => (intro w hSw; (try dsimp only at hSw); go_simp; try (with_reducible rfl))
  simp only [Act.put, List.getElem_toArray, List.getElem_cons_succ, List.getElem_cons_zero, List.setIfInBounds_toArray, List.set_cons_zero, List.set_cons_succ]
  refine wpAnyH_ready (rs := [17]) (by kernel_rfl) (by simp) ?_
  refine AllReadyH.cons rfl (fun K hK => ?_) AllReadyH.nil
  go_simp
  refine (ends_c HC x t t _ HOK HP1 HP2).mono ?_
  rintro e w5 ⟨rfl, b5⟩
  have HR5 := Lib.hid (HR4.out.below b5 HR4.out.lt)
  have HB5 := Lib.hid (HB4.out.trans (b5.mono HB4.out.size))
  have HL5 := Lib.hid (HL4.out.step b5)
  refine hK.out _ _ ((hHeld.2.2.2.2.2.step b5).mk6) (fun hHeld1 => ?_)
  clear hK K hHeld
  have hHeld := hHeld1
  clear hHeld1
  try simp only [Act.put, List.getElem_toArray, List.getElem_cons_succ, List.getElem_cons_zero, List.setIfInBounds_toArray, List.set_cons_zero, List.set_cons_succ]
  refine' wpAnyH_take (i := 18) (v := ?vr3_18) rfl (by kernel_rfl) (by kernel_rfl) (by kernel_rfl) (fun _ _ _ h => h) (Or.inl ⟨by rfl, ?hyr3_18⟩) (by assumption) ?restr3_18
  case hyr3_18 => (intro w hSw; (try dsimp only at hSw); go_simp; try (with_reducible rfl))
  simp only [Act.put, List.getElem_toArray, List.getElem_cons_succ, List.getElem_cons_zero, List.setIfInBounds_toArray, List.set_cons_zero, List.set_cons_succ]
  refine' wpAnyH_take (i := 19) (v := ?vr3_19) rfl (by kernel_rfl) (by kernel_rfl) (by kernel_rfl) (fun _ _ _ h => h) (Or.inl ⟨by rfl, ?hyr3_19⟩) (by assumption) ?restr3_19
  case hyr3_19 => (intro w hSw; (try dsimp only at hSw); go_simp; try (with_reducible rfl))
  simp only [Act.put, List.getElem_toArray, List.getElem_cons_succ, List.getElem_cons_zero, List.setIfInBounds_toArray, List.set_cons_zero, List.set_cons_succ]
  refine wpAnyH_done (by kernel_rfl) ?_ _
  clear hHeld HR4 HB4 HL4 HR2 HB2 HLW HW3
  cases t
  · have HRZ := Lib.hid HR5.out
    have HBZ := Lib.hid HB5.out
    have c0 := HRZ.out.cell 0
    have c1 := HRZ.out.cell 1
    have c2 := HRZ.out.cell 2
    have f0 := HRZ.out.frozen 0
    have f1 := HRZ.out.frozen 1
    have f2 := HRZ.out.frozen 2
    have hl := HRZ.out.lt
    go_wp2_with fail
    refine bodyPost_ret (v := .tuple #[.agg #[.int .i64 0, .int .i64 0, .int .i64 0], .bool false]) (by simp [results, Tryd.results43, go_sem, c0, c1, c2, hl]) rfl ⟨by rw [← HV.out]; rfl, ?_⟩
    exact ((HBZ.out.setCell (by simp) _).setCell (by simp) _).setCell (by simp) _
  · obtain ⟨⟨q0, q1, q2, q3, q4⟩, hgl, HGB⟩ := HL5.out
    have HGG5 := Lib.hid HGB
    clear HGB HL5
    obtain ⟨X, HXX⟩ : ∃ X, Hid (w5.heap.size = X) := ⟨_, Lib.hid rfl⟩
    obtain ⟨W6, HW6⟩ : ∃ W, Hid (w5.alloc (.cells #[.int .i64 x.frm, .int .i64 x.to_, .int .i64 x.tape, .int .i64 x.comp, .int .i64 x.slope] 51) = W) := ⟨_, Lib.hid rfl⟩
    have HLB := Lib.hid (show LB X G x C W6 by rw [← HW6.out, ← HXX.out]; exact ⟨Blk.new _ _ _, HGG5.out.alloc _⟩)
    have HR6 := Lib.hid (show Blk W6 w.heap.size 35 #[.int .i64 0, .int .i64 0, .int .i64 0] by rw [← HW6.out]; exact HR5.out.alloc _)
    have HB6 := Lib.hid (show Below w.heap.size w W6 by rw [← HW6.out]; exact HB5.out.alloc HB5.out.size _)
    go_upto_region 5 with fail
    try rw [HXX.out]
    try simp only [HXX.out]
    rw [HW6.out]
    clear HW6 HXX HGG5 HR5 HB5 q0 q1 q2 q3 q4 hgl
    obtain ⟨l1, l2, -⟩ := okLg_lim HOK.out
    obtain ⟨a, ha⟩ := Int.eq_ofNat_of_zero_le l1.1
    obtain ⟨b, hb⟩ := Int.eq_ofNat_of_zero_le l2.1
    have ha8 : a < 8 := by omega
    have hb8 : b < 8 := by omega
    clear l1 l2
    obtain ⟨p, HP⟩ : ∃ p, Hid (at_ (netS ts).pl (a : Int) = p) := ⟨_, Lib.hid rfl⟩
    obtain ⟨q, HQ⟩ : ∃ q, Hid (at_ (netS ts).pl (b : Int) = q) := ⟨_, Lib.hid rfl⟩
    obtain ⟨d, HD⟩ : ∃ d, Hid (sub3 q p = d) := ⟨_, Lib.hid rfl⟩
    obtain ⟨h, HH⟩ : ∃ h, Hid (shf x = h) := ⟨_, Lib.hid rfl⟩
    obtain ⟨r, HR⟩ : ∃ r, Hid (sub3 h d = r) := ⟨_, Lib.hid rfl⟩
    have HPB := Lib.hid (show BdS p by rw [← HP.out]; have k := (q6 ts).2.2.2 (a : Int); unfold Bd4 at k; unfold BdS; omega)
    have HQB := Lib.hid (show BdS q by rw [← HQ.out]; have k := (q6 ts).2.2.2 (b : Int); unfold Bd4 at k; unfold BdS; omega)
    have HDB := Lib.hid (show BdS d by rw [← HD.out, ← HP.out, ← HQ.out]; have k := (q6 ts).2.2.2 (a : Int); have j := (q6 ts).2.2.2 (b : Int); unfold Bd4 at k j; unfold BdS sub3; simp only []; omega)
    have HHB := Lib.hid (show BdS h by rw [← HH.out]; exact bd_shf HOK.out)
    have HE := Lib.hid (show errV ts x = r by
      unfold errV
      rw [← HR.out, HH.out, ha, hb, ← HNS.out, HP.out, HQ.out]
      exact (err_eq d h p q HD.out).symm)
    obtain ⟨xf, xt, tp, cp, sl⟩ := x
    simp only [] at ha hb
    subst ha hb
    refine wp_region_held_drew (S := (fun v => v.cell? ⟨X, 0, none⟩ = some (.int .i64 (a : Int)) ∧ v.cell? ⟨X, 1, none⟩ = some (.int .i64 (b : Int)) ∧ v.cell? ⟨X, 2, none⟩ = some (.int .i64 tp) ∧ v.cell? ⟨X, 3, none⟩ = some (.int .i64 cp) ∧ v.cell? ⟨X, 4, none⟩ = some (.int .i64 sl) ∧ LB X G ⟨(a : Int), (b : Int), tp, cp, sl⟩ C v)) (by kernel_rfl) ?_ (fun hHeld => ?_)
    · exact (HLB.out.step (Below.refl _ _).drew).mk6
    refine' wpAnyH_take (i := 0) (v := ?vr4_0) rfl (by kernel_rfl) (by kernel_rfl) (by kernel_rfl) (fun _ _ _ h => h) (Or.inl ⟨by rfl, ?hyr4_0⟩) (by assumption) ?restr4_0
    case hyr4_0 => (intro w hSw; (try dsimp only at hSw); go_simp; try (with_reducible rfl))
    simp only [Act.put, List.getElem_toArray, List.getElem_cons_succ, List.getElem_cons_zero, List.setIfInBounds_toArray, List.set_cons_zero, List.set_cons_succ]
    refine' wpAnyH_take (i := 2) (v := .agg C) rfl (by kernel_rfl) (by kernel_rfl) (by kernel_rfl) (fun _ _ _ h => h) (Or.inl ⟨by rfl, fun v hSv => exec_load rfl rfl hSv.2.2.2.2.2.2 hcz⟩) (by assumption) ?_
    simp only [Act.put, List.getElem_toArray, List.getElem_cons_succ, List.getElem_cons_zero, List.setIfInBounds_toArray, List.set_cons_zero, List.set_cons_succ]
    refine' wpAnyH_take (i := 3) (v := ?vr4_3) rfl (by kernel_rfl) (by kernel_rfl) (by kernel_rfl) (fun _ _ _ h => h) (Or.inl ⟨by rfl, ?hyr4_3⟩) (by assumption) ?restr4_3
    case hyr4_3 => (intro w hSw; (try dsimp only at hSw); go_simp; try (with_reducible rfl))
    simp only [Act.put, List.getElem_toArray, List.getElem_cons_succ, List.getElem_cons_zero, List.setIfInBounds_toArray, List.set_cons_zero, List.set_cons_succ]
    refine' wpAnyH_take (i := 4) (v := ?vr4_4) rfl (by kernel_rfl) (by kernel_rfl) (by kernel_rfl) (fun _ _ _ h => h) (Or.inl ⟨by rfl, ?hyr4_4⟩) (by assumption) ?restr4_4
    case hyr4_4 => (intro w hSw; (try dsimp only at hSw); go_simp; try (with_reducible rfl))
    simp only [Act.put, List.getElem_toArray, List.getElem_cons_succ, List.getElem_cons_zero, List.setIfInBounds_toArray, List.set_cons_zero, List.set_cons_succ]
    refine' wpAnyH_take (i := 5) (v := ?vr4_5) rfl (by kernel_rfl) (by kernel_rfl) (by kernel_rfl) (fun _ _ _ h => h) (Or.inl ⟨by rfl, ?hyr4_5⟩) (by assumption) ?restr4_5
    case hyr4_5 => (intro w hSw; (try dsimp only at hSw); go_simp; try (with_reducible rfl))
    simp only [Act.put, List.getElem_toArray, List.getElem_cons_succ, List.getElem_cons_zero, List.setIfInBounds_toArray, List.set_cons_zero, List.set_cons_succ]
    refine' wpAnyH_take (i := 6) (v := ?vr4_6) rfl (by kernel_rfl) (by kernel_rfl) (by kernel_rfl) (fun _ _ _ h => h) (Or.inl ⟨by rfl, ?hyr4_6⟩) (by assumption) ?restr4_6
    case hyr4_6 => (intro w hSw; (try dsimp only at hSw); go_simp; try (with_reducible rfl))
    simp only [Act.put, List.getElem_toArray, List.getElem_cons_succ, List.getElem_cons_zero, List.setIfInBounds_toArray, List.set_cons_zero, List.set_cons_succ]
    refine wpAnyH_ready (rs := [1]) (by kernel_rfl) (by simp) ?_
    refine AllReadyH.cons rfl (fun K hK => ?_) AllReadyH.nil
    go_simp
    refine (along_is ⟨(a : Int), (b : Int), tp, cp, sl⟩ h HH _ HOK (Lib.hid (hT.out.below HB6.out.drew))).mono ?_
    rintro e w7 ⟨rfl, b7⟩
    have HR7 := Lib.hid (HR6.out.drew.below b7 HR6.out.lt)
    have HB7 := Lib.hid (HB6.out.drew.trans (b7.mono HB6.out.size))
    refine hK.out _ _ ((hHeld.2.2.2.2.2.step b7).mk6) (fun hHeld1 => ?_)
    clear hK K hHeld
    have hHeld := hHeld1
    clear hHeld1
    try simp only [Act.put, List.getElem_toArray, List.getElem_cons_succ, List.getElem_cons_zero, List.setIfInBounds_toArray, List.set_cons_zero, List.set_cons_succ]
    refine wpAnyH_ready (rs := [7]) (by kernel_rfl) (by simp) ?_
    refine AllReadyH.cons rfl (fun K hK => ?_) AllReadyH.nil
    go_simp
    refine (between_c HC a b p q d _ (Lib.hid (nok_S ts)) ha8 hb8 HP HQ HD HPB HQB).mono ?_
    rintro e w8 ⟨rfl, b8⟩
    have HR8 := Lib.hid (HR7.out.below b8 HR7.out.lt)
    have HB8 := Lib.hid (HB7.out.trans (b8.mono HB7.out.size))
    refine hK.out _ _ ((hHeld.2.2.2.2.2.step b8).mk6) (fun hHeld1 => ?_)
    clear hK K hHeld
    have hHeld := hHeld1
    clear hHeld1
    try simp only [Act.put, List.getElem_toArray, List.getElem_cons_succ, List.getElem_cons_zero, List.setIfInBounds_toArray, List.set_cons_zero, List.set_cons_succ]
    refine wpAnyH_ready (rs := [8]) (by kernel_rfl) (by simp) ?_
    refine AllReadyH.cons rfl (fun K hK => ?_) AllReadyH.nil
    go_simp
    refine (diff_q h d r HR _ HHB HDB).mono ?_
    rintro e w9 ⟨rfl, b9⟩
    have HR9 := Lib.hid (HR8.out.below b9 HR8.out.lt)
    have HB9 := Lib.hid (HB8.out.trans (b9.mono HB8.out.size))
    have HL9 := Lib.hid (hHeld.2.2.2.2.2.step b9)
    refine hK.out _ _ ((hHeld.2.2.2.2.2.step b9).mk6) (fun hHeld1 => ?_)
    clear hK K hHeld
    have hHeld := hHeld1
    clear hHeld1
    try simp only [Act.put, List.getElem_toArray, List.getElem_cons_succ, List.getElem_cons_zero, List.setIfInBounds_toArray, List.set_cons_zero, List.set_cons_succ]
    clear HR6 HB6 HR7 HB7 HR8 HB8
    have c0 := HR9.out.cell 0
    have c1 := HR9.out.cell 1
    have c2 := HR9.out.cell 2
    have f0 := HR9.out.frozen 0
    have f1 := HR9.out.frozen 1
    have f2 := HR9.out.frozen 2
    have hl := HR9.out.lt
    have hn1 := Blk.ne_ HL9.out.1 HR9.out (by decide)
    have hn2 := Blk.ne_ HL9.out.2 HR9.out (by decide)
    refine wpAnyH_ready (rs := [9]) (by kernel_rfl) (by simp) ?_
    refine AllReadyH.cons rfl (fun K hK => ?_) AllReadyH.nil
    go_simp
    refine hK.out _ _ ((show LB X G ⟨(a : Int), (b : Int), tp, cp, sl⟩ C _ from ⟨((HL9.out.1.far hn1 _).far hn1 _).far hn1 _, ((HL9.out.2.far hn2 _).far hn2 _).far hn2 _⟩).mk6) (fun hHeld1 => ?_)
    clear hK K hHeld
    have hHeld := hHeld1
    clear hHeld1
    try simp only [Act.put, List.getElem_toArray, List.getElem_cons_succ, List.getElem_cons_zero, List.setIfInBounds_toArray, List.set_cons_zero, List.set_cons_succ]
    refine' wpAnyH_take (i := 10) (v := ?vr4_10) rfl (by kernel_rfl) (by kernel_rfl) (by kernel_rfl) (fun _ _ _ h => h) (Or.inl ⟨by rfl, ?hyr4_10⟩) (by assumption) ?restr4_10
    case hyr4_10 => (intro w hSw; (try dsimp only at hSw); go_simp; try (with_reducible rfl))
    simp only [Act.put, List.getElem_toArray, List.getElem_cons_succ, List.getElem_cons_zero, List.setIfInBounds_toArray, List.set_cons_zero, List.set_cons_succ]
    refine wpAnyH_done (by kernel_rfl) ?_ _
    clear hHeld
    go_wp2_with fail
    refine bodyPost_ret (v := .tuple #[.agg #[.int .i64 r.east, .int .i64 r.north, .int .i64 r.up], .bool true]) (by simp [results, Tryd.results43, go_sem, c0, c1, c2, hl]) rfl ⟨by rw [← HV.out, HE.out]; rfl, ?_⟩
    exact ((HB9.out.setCell (by simp) _).setCell (by simp) _).setCell (by simp) _
end Go.Proofs.YtkeepfkjhcmhlaaDoor.nq

namespace Go.Proofs.YtkeepfkjhcmhlaaDoor.nq
open Go.RowKit
open reads base ty lg lgi win hs nt rowi sn
set_option linter.unusedVariables false
set_option linter.unusedSimpArgs false

theorem errorOf_impl (A : Option Addr) (n cap : Nat) (ts : List Lg) (z : Int) (w : World) (hn : n ≤ 2000000) (hts : Hid (LgAt w w.heap.size A n ts)) (hT : Hid (Tab w)) :
    Calls Tryd.prog 43 #[.slice A n cap, .int .i64 z] w (APost (ansEr ts z) w) := by
  have hL := hts.out.1
  cases hg : goodLg ts
  · have e : ansEr ts z = .tuple #[.agg #[.int .i64 0, .int .i64 0, .int .i64 0], .bool false] := by unfold ansEr erOk; rw [hg]; rfl
    rw [e]
    exact err_bad A n cap ts z _ w hn (Lib.hid rfl) hts hT (Lib.hid hg)
  · cases hb : btw 0 z ((n : Int) - 1)
    · have e : ansEr ts z = .tuple #[.agg #[.int .i64 0, .int .i64 0, .int .i64 0], .bool false] := by unfold ansEr erOk; rw [hg, hL, hb]; rfl
      rw [e]
      exact err_out A n cap ts z _ w hn (Lib.hid rfl) hts hT (Lib.hid hg) (Lib.hid hb)
    · obtain ⟨z0, z1⟩ := btw_yes hb
      obtain ⟨k, rfl⟩ := Int.eq_ofNat_of_zero_le z0
      obtain ⟨x, hx⟩ := at_lt hL (show k < n by omega)
      have e : ansEr ts (k : Int) = if mem (net ts).ps x.frm then .tuple #[.agg #[.int .i64 (errV ts x).east, .int .i64 (errV ts x).north, .int .i64 (errV ts x).up], .bool true] else .tuple #[.agg #[.int .i64 0, .int .i64 0, .int .i64 0], .bool false] := by
        unfold ansEr erOk erAt erV
        rw [hg, hL, hb, Int.toNat_natCast, hx]
        simp only [Bool.true_and]
      rw [e]
      exact err_in A n cap k x _ ts _ w hn (Lib.hid rfl) hts hT (Lib.hid hg) (Lib.hid hx) (Lib.hid rfl) _ (Lib.hid rfl)
end Go.Proofs.YtkeepfkjhcmhlaaDoor.nq
