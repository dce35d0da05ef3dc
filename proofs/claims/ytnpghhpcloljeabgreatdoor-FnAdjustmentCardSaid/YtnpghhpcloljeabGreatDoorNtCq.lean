/-
  The places of stations, by the model (l6Place).
  Stations and legs as marks; what holds when no leg places a station any more (pure mathematics).
  The length of three parts: what an answer is.
  What stations and their places are, and what the steps that place them keep (pure mathematics).
  Conditions: those that each theorem names.
-/
import Derived.Test.YtnpghhpcloljeabGreatDoorNtAq
import Derived.Deep.RegionHeld3
import Derived.Deep.DeepCutAuto
import Derived.OwnWalk
import Derived.Test.YtnpghhpcloljeabGreatDoorReadsq
namespace Go.Proofs.YtnpghhpcloljeabGreatDoor.nt
open Go.RowKit
open reads base ty lg rowi hs
set_option linter.unusedVariables false
set_option linter.unusedSimpArgs false

theorem flatSf_set (t : Sf) : ∀ (ts : List Sf) (i : Nat), i < ts.length → (((flatSf ts).set (i * 3) (.int .i64 t.east)).set (i * 3 + 1) (.int .i64 t.north)).set (i * 3 + 2) (.int .i64 t.up) = flatSf (ts.set i t)
  | [], i, h => by simp at h
  | d :: ts, 0, h => by simp [flatSf]
  | d :: ts, i + 1, h => by
    have ih := flatSf_set t ts i (by simpa using h)
    have e : flatSf (d :: ts) = .int .i64 d.east :: .int .i64 d.north :: .int .i64 d.up :: flatSf ts := rfl
    have e2 : flatSf ((d :: ts).set (i + 1) t) = .int .i64 d.east :: .int .i64 d.north :: .int .i64 d.up :: flatSf (ts.set i t) := rfl
    rw [e2, ← ih, e, show (i + 1) * 3 = i * 3 + 1 + 1 + 1 by omega, show i * 3 + 1 + 1 + 1 + 1 = (i * 3 + 1) + 1 + 1 + 1 by omega, show i * 3 + 1 + 1 + 1 + 2 = (i * 3 + 2) + 1 + 1 + 1 by omega]
    simp only [List.set_cons_succ]
/-- what is live while stations are placed -/
def NS (w : World) (g1 g2 m2 c2 g3 m3 c3 : Nat) (s : Net) (v : World) : Prop :=
  Below w.heap.size w v ∧ v.ownsRow w.heap.size 72 3 (.slice (some ⟨g1, 0, none⟩) 8 8) 8 (flatSf s.pl) ∧ v.ownsRow w.heap.size 3 1 (.slice (some ⟨g2, 0, none⟩) m2 c2) m2 (ints.intsV s.ps) ∧ v.ownsRow w.heap.size 3 1 (.slice (some ⟨g3, 0, none⟩) m3 c3) m3 (ints.intsV s.tr)
section
variable {w v v' : World} {g1 g2 m2 c2 g3 m3 c3 : Nat} {s : Net}
theorem NS.step (h : NS w g1 g2 m2 c2 g3 m3 c3 s v) (hb : Below v.heap.size v v') : NS w g1 g2 m2 c2 g3 m3 c3 s v' :=
  ⟨h.1.trans (hb.mono h.1.size), row_below h.2.1 hb, row_below h.2.2.1 hb, row_below h.2.2.2 hb⟩
theorem own_far (g : Nat) {e : TypeId} {size n c g0 : Nat} {xs : List Value} {bs : Nat} (h : v.ownsRow bs e size (.slice (some ⟨g0, 0, none⟩) n c) n xs) (hne : g ≠ g0) (i : Nat) (u : Value) : (v.setCell ⟨g, i, none⟩ u).ownsRow bs e size (.slice (some ⟨g0, 0, none⟩) n c) n xs :=
  h.kept (row := some g) ⟨rfl, rfl, rfl, by simp [World.setCell], fun j hj hn => Below.heap_setCell v ⟨g, i, none⟩ u j (by rintro rfl; exact hn rfl)⟩ (.inr (by simp [Value.ownBlock]; exact fun q => hne q.symm))
theorem NS.ne (h : NS w g1 g2 m2 c2 g3 m3 c3 s v) : g1 ≠ g2 ∧ g1 ≠ g3 := by
  obtain ⟨-, h1, h2, h3⟩ := h
  constructor
  · rintro rfl
    rcases h1.2 with ⟨e, _⟩ | ⟨g, cp, cur, e, _, hg, _⟩
    · cases e
    · injection e with e1; injection e1 with e1; injection e1 with e1; subst e1
      exact own_blk_ne (e := 3) h2 (t := 72) hg (by decide) rfl
  · rintro rfl
    rcases h1.2 with ⟨e, _⟩ | ⟨g, cp, cur, e, _, hg, _⟩
    · cases e
    · injection e with e1; injection e1 with e1; injection e1 with e1; subst e1
      exact own_blk_ne (e := 3) h3 (t := 72) hg (by decide) rfl
/-- a place is written -/
theorem NS.store (h : NS w g1 g2 m2 c2 g3 m3 c3 s v) (hl : s.pl.length = 8) {b : Nat} (hb : b ≤ 7) (c : Sf) : NS w g1 g2 m2 c2 g3 m3 c3 ⟨s.pl.set b c, s.ps, s.tr⟩ (((v.setCell ⟨g1, b * 3, none⟩ (.int .i64 c.east)).setCell ⟨g1, b * 3 + 1, none⟩ (.int .i64 c.north)).setCell ⟨g1, b * 3 + 2, none⟩ (.int .i64 c.up)) := by
  obtain ⟨n2, n3⟩ := h.ne
  obtain ⟨h0, h1, h2, h3⟩ := h
  have hg := (h1.lt g1 rfl).1
  refine ⟨((h0.setCell hg _).setCell hg _).setCell hg _, ?_, own_far _ (own_far _ (own_far _ h2 n2 _ _) n2 _ _) n2 _ _, own_far _ (own_far _ (own_far _ h3 n3 _ _) n3 _ _) n3 _ _⟩
  rw [← flatSf_set c s.pl b (by omega)]
  exact (((h1.stored (b * 3) _).1.stored (b * 3 + 1) _).1.stored (b * 3 + 2) _).1
theorem NS.cells (h : NS w g1 g2 m2 c2 g3 m3 c3 s v) (hl : s.pl.length = 8) {a : Nat} (ha : a ≤ 7) : v.cell? ⟨g1, a * 3, none⟩ = some (.int .i64 (at_ s.pl (a : Int)).east) ∧ v.cell? ⟨g1, a * 3 + 1, none⟩ = some (.int .i64 (at_ s.pl (a : Int)).north) ∧ v.cell? ⟨g1, a * 3 + 2, none⟩ = some (.int .i64 (at_ s.pl (a : Int)).up) := by
  have e : s.pl[a]? = some (at_ s.pl (a : Int)) := by
    unfold at_
    rw [Int.toNat_natCast, List.getElem?_eq_getElem (by omega)]; rfl
  obtain ⟨k0, k1, k2⟩ := flatSf_at s.pl a _ e
  exact ⟨(h.2.1.cellAt _ (by omega)).trans k0, (h.2.1.cellAt _ (by omega)).trans k1, (h.2.1.cellAt _ (by omega)).trans k2⟩
theorem NS.fro (h : NS w g1 g2 m2 c2 g3 m3 c3 s v) (j : Nat) : v.frozen? ⟨g1, j, none⟩ = false := h.2.1.frozenAt j
end
/-- what the worlds of a step keep: a place, a leg -/
def CS (g1 a : Nat) (p : Sf) (gL j : Nat) (x : Lg) (v : World) : Prop :=
  (v.cell? ⟨g1, a * 3, none⟩ = some (.int .i64 p.east) ∧ v.cell? ⟨g1, a * 3 + 1, none⟩ = some (.int .i64 p.north) ∧ v.cell? ⟨g1, a * 3 + 2, none⟩ = some (.int .i64 p.up)) ∧
  (v.cell? ⟨gL, j * 5, none⟩ = some (.int .i64 x.frm) ∧ v.cell? ⟨gL, j * 5 + 1, none⟩ = some (.int .i64 x.to_) ∧ v.cell? ⟨gL, j * 5 + 2, none⟩ = some (.int .i64 x.tape) ∧ v.cell? ⟨gL, j * 5 + 3, none⟩ = some (.int .i64 x.comp) ∧ v.cell? ⟨gL, j * 5 + 4, none⟩ = some (.int .i64 x.slope)) ∧ g1 < v.heap.size ∧ gL < v.heap.size
section
variable {g1 a b gL j : Nat} {p : Sf} {x : Lg} {v v' : World}
theorem CS.step (h : CS g1 a p gL j x v) (hb : Below v.heap.size v v') : CS g1 a p gL j x v' := by
  obtain ⟨⟨p0, p1, p2⟩, ⟨q0, q1, q2, q3, q4⟩, l1, l2⟩ := h
  have A : ∀ o, v'.cell? ⟨g1, o, none⟩ = v.cell? ⟨g1, o, none⟩ := fun o => hb.cell (p := ⟨g1, o, none⟩) l1
  have B : ∀ o, v'.cell? ⟨gL, o, none⟩ = v.cell? ⟨gL, o, none⟩ := fun o => hb.cell (p := ⟨gL, o, none⟩) l2
  have hs := hb.size
  exact ⟨⟨(A _).trans p0, (A _).trans p1, (A _).trans p2⟩, ⟨(B _).trans q0, (B _).trans q1, (B _).trans q2, (B _).trans q3, (B _).trans q4⟩, by omega, by omega⟩
theorem CS.set (h : CS g1 a p gL j x v) (hab : ¬ a = b) (hg : g1 ≠ gL) (i : Nat) (hi : i ≤ 2) (u : Value) : CS g1 a p gL j x (v.setCell ⟨g1, b * 3 + i, none⟩ u) := by
  obtain ⟨⟨p0, p1, p2⟩, ⟨q0, q1, q2, q3, q4⟩, l1, l2⟩ := h
  have A : ∀ o, o ≤ 2 → (v.setCell ⟨g1, b * 3 + i, none⟩ u).cell? ⟨g1, a * 3 + o, none⟩ = v.cell? ⟨g1, a * 3 + o, none⟩ := fun o ho => World.cell?_setCell_other _ _ _ _ (by intro e; injection e with e1 e2; omega)
  have B : ∀ o, (v.setCell ⟨g1, b * 3 + i, none⟩ u).cell? ⟨gL, o, none⟩ = v.cell? ⟨gL, o, none⟩ := fun o => World.cell?_setCell_other _ _ _ _ (by intro e; injection e with e1 e2; exact hg e1)
  exact ⟨⟨(A 0 (by omega)).trans p0, (A 1 (by omega)).trans p1, (A 2 (by omega)).trans p2⟩, ⟨(B _).trans q0, (B _).trans q1, (B _).trans q2, (B _).trans q3, (B _).trans q4⟩, by simpa [World.setCell] using l1, by simpa [World.setCell] using l2⟩
theorem CS.mk8 (h : CS g1 a p gL j x v) : v.cell? ⟨g1, a * 3, none⟩ = some (.int .i64 p.east) ∧ v.cell? ⟨g1, a * 3 + 1, none⟩ = some (.int .i64 p.north) ∧ v.cell? ⟨g1, a * 3 + 2, none⟩ = some (.int .i64 p.up) ∧ v.cell? ⟨gL, j * 5, none⟩ = some (.int .i64 x.frm) ∧ v.cell? ⟨gL, j * 5 + 1, none⟩ = some (.int .i64 x.to_) ∧ v.cell? ⟨gL, j * 5 + 2, none⟩ = some (.int .i64 x.tape) ∧ v.cell? ⟨gL, j * 5 + 3, none⟩ = some (.int .i64 x.comp) ∧ v.cell? ⟨gL, j * 5 + 4, none⟩ = some (.int .i64 x.slope) ∧ CS g1 a p gL j x v :=
  ⟨h.1.1, h.1.2.1, h.1.2.2, h.2.1.1, h.2.1.2.1, h.2.1.2.2.1, h.2.1.2.2.2.1, h.2.1.2.2.2.2, h⟩
end
theorem bd_at {s : Net} (h : Ok s) (x : Int) : BdS (at_ s.pl x) := by have h1 := at_bd h x; have h2 := h.ps_len; unfold BdS; omega
theorem bd_shf {x : Lg} (h : okLg x = true) : BdS (shf x) := by have h1 := shf_bd h; unfold BdS; omega
def sliceN : Value → Nat
  | .slice _ n _ => n
  | _ => 0
def left (p : Value) (ag : Value) : Nat := match ag with
  | .bool true => 100 - sliceN p
  | _ => 0
/-- the places, the placed stations, the tree legs -/
def NPo (s : Net) (w : World) (e : Ending) (w' : World) : Prop :=
  ∃ g1 g2 c2 g3 c3 : Nat, e = .returned (.tuple #[.slice (some ⟨g1, 0, none⟩) 8 8, .slice (some ⟨g2, 0, none⟩) s.ps.length c2, .slice (some ⟨g3, 0, none⟩) s.tr.length c3]) ∧ NS w g1 g2 s.ps.length c2 g3 s.tr.length c3 s w'
set_option maxHeartbeats 16000000 in
set_option maxRecDepth 100000 in
theorem place_any (A : Option Addr) (n cap : Nat) (ts : List Lg) (w : World) (hg : Hid (goodLg ts = true)) (hts : Hid (LgAt w w.heap.size A n ts)) :
    Calls Tryz.prog 130 #[.slice A n cap] w (NPo (net ts) w) := by
  have HL := Lib.hid hts.out.1
  have hn12 : n ≤ 12 := by rw [← HL.out]; exact goodLg_len hg.out
  obtain ⟨i0, hi0, hz0, hz1, hz2⟩ := info_parts infoSf
  have hmk : ∀ W : World, (Instr.makeSlice 138 (.int .i64 8) (.int .i64 8)).run Tryz.prog W = .ok (.slice (some ⟨W.heap.size, 0, none⟩) 8 8) (W.alloc (.cells (madeCells #[.int .i64 0, .int .i64 0, .int .i64 0] 24) 72)) := fun W => by
    have h := run_make_rowN (P := Tryz.prog) 138 72 i0 _ Tryz.underlying138 hi0 hz0 .i64 .i64 8 8 (Nat.le_refl _) (by rw [hz2]; omega) (by omega) W
    rw [hz1] at h
    exact h
  obtain ⟨W1, HW1⟩ : ∃ W, Hid (w.alloc (.cells (madeCells #[.int .i64 0, .int .i64 0, .int .i64 0] 24) 72) = W) := ⟨_, Lib.hid rfl⟩
  have HR1 := Lib.hid (show W1.ownsRow w.heap.size 72 3 (.slice (some ⟨w.heap.size, 0, none⟩) 8 8) 8 (flatSf start.pl) by
    rw [← HW1.out]
    exact ⟨rfl, .inr ⟨w.heap.size, 8, _, rfl, Nat.le_refl _, alloc_at rfl, Nat.le_refl _, by decide, by kernel_rfl, by kernel_rfl⟩⟩)
  have HB1 := Lib.hid (show Below w.heap.size w W1 by rw [← HW1.out]; exact (Below.refl _ _).alloc (Nat.le_refl _) _)
  obtain ⟨G1, HG1⟩ : ∃ G, Hid (w.heap.size = G) := ⟨_, Lib.hid rfl⟩
  have HS0 := Lib.hid (show NS w w.heap.size W1.heap.size 1 1 (W1.heap.size + 1) 0 0 start ((W1.alloc (.cells #[.int .i64 0] 3)).alloc (.cells #[] 3)) from
    ⟨(HB1.out.alloc HB1.out.size _).alloc (by have := HB1.out.size; simp; omega) _, (HR1.out.alloc _).alloc _,
     ⟨rfl, .inr ⟨W1.heap.size, 1, #[.int .i64 0], rfl, HB1.out.size, (Blk.new W1 3 #[.int .i64 0]).alloc _, Nat.le_refl _, by decide, rfl, rfl⟩⟩,
     ⟨rfl, .inr ⟨W1.heap.size + 1, 0, #[], rfl, by have := HB1.out.size; omega, by have h := Blk.new (W1.alloc (.cells #[.int .i64 0] 3)) 3 #[]; rw [show (W1.alloc (.cells #[.int .i64 0] 3)).heap.size = W1.heap.size + 1 by simp] at h; exact h, Nat.le_refl _, by decide, rfl, rfl⟩⟩⟩)
  clear HR1 HB1
  go_enter Tryz.func130, Tryz.ntmps130
  go_upto_region 2 with fail
  rw [HW1.out]
  clear hmk HW1
  go_wp2_with fail
  go_loopw [6, 7, 8] (fun p t ag wr => ∃ (k : Nat) (bb : Bool) (g2 m2 c2 g3 m3 c3 : Nat), k ≤ 8 ∧ ag = .bool bb ∧ Hid (if bb = true then ∀ j, j < k → doesN ts (passes ts j) ts.length = true else net ts = passes ts k) ∧ p = .slice (some ⟨g2, 0, none⟩) m2 c2 ∧ t = .slice (some ⟨g3, 0, none⟩) m3 c3 ∧ NS w w.heap.size g2 m2 c2 g3 m3 c3 (passes ts k) wr) (fun p _ ag _ => left p ag)
  case atStart => exact ⟨0, true, _, 1, 1, _, 0, 0, by omega, rfl, Lib.hid (by rw [if_pos rfl]; intro j hj; omega), rfl, rfl, HS0.out⟩
  case round =>
    obtain ⟨k, bb, g2, m2, c2, g3, m3, c3, hk, rfl, HQ, rfl, rfl, hN⟩ := hrel
    have HN := Lib.hid hN
    clear hN HS0
    obtain ⟨S, HS⟩ : ∃ S, Hid (passes ts k = S) := ⟨_, Lib.hid rfl⟩
    have HOS := Lib.hid (show Ok S by rw [← HS.out]; exact ok_passes hg.out k)
    rw [HS.out] at HN
    have hm2 : m2 = S.ps.length := by have h := HN.out.2.2.1.1; rw [ints.intsV_len] at h; omega
    have hm3 : m3 = S.tr.length := by have h := HN.out.2.2.2.1; rw [ints.intsV_len] at h; omega
    cases bb
    · have HF := Lib.hid (show net ts = S by have h := HQ.out; rw [if_neg (by decide)] at h; rw [h, HS.out])
      go_wp2_with fail
      go_ret3
      refine ⟨w.heap.size, g2, c2, g3, c3, ?_, ?_⟩
      · rw [HF.out, ← hm2, ← hm3]; rfl
      · rw [HF.out, ← hm2, ← hm3]; exact HN.out
    have hm28 : m2 ≤ 8 := by rw [hm2]; exact HOS.out.ps_len
    have HM2 := Lib.hid hm2
    clear hm2 hm3
    go_wp2_with fail
    go_loopw [6, 7, 8, 9] (fun p t ag i wr => ∃ (j : Nat) (bb : Bool) (g2 m2 c2 g3 m3 c3 : Nat), j ≤ n ∧ i = .int .i64 (j : Nat) ∧ Hid (doesN ts S j = bb) ∧ ag = .bool bb ∧ p = .slice (some ⟨g2, 0, none⟩) m2 c2 ∧ t = .slice (some ⟨g3, 0, none⟩) m3 c3 ∧ NS w w.heap.size g2 m2 c2 g3 m3 c3 (legsN ts S j) wr) (fun _ _ _ i _ => n - (intOf i).toNat)
    case atStart => exact ⟨0, false, g2, m2, c2, g3, m3, c3, Nat.zero_le _, rfl, Lib.hid rfl, rfl, rfl, rfl, HN.out⟩
    case round =>
      obtain ⟨j, bb, g2, m2, c2, g3, m3, c3, hj, rfl, HBB, rfl, rfl, rfl, hN⟩ := hrel
      have HN := Lib.hid hN
      clear hN
      obtain ⟨s, HSS⟩ : ∃ s, Hid (legsN ts S j = s) := ⟨_, Lib.hid rfl⟩
      have HOKS := Lib.hid (show Ok s by rw [← HSS.out]; exact ok_legs hg.out HOS.out j)
      rw [HSS.out] at HN
      have hm2 : m2 = s.ps.length := by have h := HN.out.2.2.1.1; rw [ints.intsV_len] at h; omega
      have hm3 : m3 = s.tr.length := by have h := HN.out.2.2.2.1; rw [ints.intsV_len] at h; omega
      have hm28 : m2 ≤ 8 := by rw [hm2]; exact HOKS.out.ps_len
      have hm38 : m3 ≤ 12 := by rw [hm3]; exact HOKS.out.tr_len
      have HM2' := Lib.hid hm2
      have HM3' := Lib.hid hm3
      clear hm2 hm3
      by_cases hlt : j < n
      · obtain ⟨x, hx⟩ := at_lt HL.out hlt
        obtain ⟨gL, rfl, hgL, e0, e1, e2, e3, e4⟩ := (hts.out.below HN.out.1).2 j x hx
        have hok := goodLg_at hg.out hx
        obtain ⟨l1, l2, l3, -⟩ := okLg_lim hok
        obtain ⟨fr, to_, tp, cp, sl⟩ := x
        simp only [] at l1 l2 l3 e0 e1 e2 e3 e4
        obtain ⟨a, rfl⟩ : ∃ a : Nat, fr = (a : Int) := ⟨fr.toNat, by omega⟩
        obtain ⟨b, rfl⟩ : ∃ b : Nat, to_ = (b : Int) := ⟨to_.toNat, by omega⟩
        have ha7 : a ≤ 7 := by omega
        have hb7 : b ≤ 7 := by omega
        have hab : ¬ a = b := by omega
        have HX := Lib.hid hx
        have HOK := Lib.hid hok
        have hgL2 : gL < wr.heap.size := by have := HN.out.1.size; omega
        have hgne : w.heap.size ≠ gL := by omega
        have ha0 : (0 : Int) ≤ (a : Int) := by omega
        have hb0 : (0 : Int) ≤ (b : Int) := by omega
        have ha8 : (a : Int) < 8 := by omega
        have hb8 : (b : Int) < 8 := by omega
        clear hx hok l1 l2 l3
        have hji : (j : Int) < (n : Int) := by omega
        have hj0 : 0 ≤ (j : Int) := by omega
        have hjd : decide (j < n) = true := by simpa using hlt
        cases hfa : mem s.ps (a : Int)
        · cases hfb : mem s.ps (b : Int)
          · have HFA := Lib.hid hfa
            have HFB := Lib.hid hfb
            clear hfa hfb
            go_wp2_with fail
            go_region
            obtain ⟨W0, HW0⟩ : ∃ W, Hid (wr.drew = W) := ⟨_, Lib.hid rfl⟩
            rw [HW0.out]
            have HBD0 := Lib.hid (show Below wr.heap.size wr W0 by rw [← HW0.out]; exact (Below.refl _ _).drew)
            have HND := Lib.hid (HN.out.step HBD0.out)
            have d0 := (HBD0.out.cell (p := ⟨gL, j * 5, none⟩) hgL2).trans e0
            have d1 := (HBD0.out.cell (p := ⟨gL, j * 5 + 1, none⟩) hgL2).trans e1
            have d2 := (HBD0.out.cell (p := ⟨gL, j * 5 + 2, none⟩) hgL2).trans e2
            have d3 := (HBD0.out.cell (p := ⟨gL, j * 5 + 3, none⟩) hgL2).trans e3
            have d4 := (HBD0.out.cell (p := ⟨gL, j * 5 + 4, none⟩) hgL2).trans e4
            have hgL3 : gL < W0.heap.size := by have := HBD0.out.size; omega
            clear e0 e1 e2 e3 e4 HN HW0 HBD0 hgL2
            have HN := HND
            clear HND
            go_wp2_with fail
            refine (has_is (some ⟨g2, 0, none⟩) m2 c2 s.ps (a : Int) false HFA _ (by omega) (Lib.hid (ints.IL.of_own HN.out.2.2.1))).mono ?_
            rintro e w9 ⟨rfl, rfl⟩
            go_wp2_with fail
            refine (has_is (some ⟨g2, 0, none⟩) m2 c2 s.ps (b : Int) false HFB _ (by omega) (Lib.hid (ints.IL.of_own HN.out.2.2.1))).mono ?_
            rintro e w9 ⟨rfl, rfl⟩
            have HNX := Lib.hid (show does ⟨(a : Int), (b : Int), tp, cp, sl⟩ s = false by unfold does; simp [← mem_iff, HFA.out, HFB.out])
            have HDX := Lib.hid (show doesN ts S (j + 1) = bb by rw [doesN_succ HX.out, HSS.out, HNX.out, HBB.out, Bool.or_false])
            have HSX := Lib.hid (show legsN ts S (j + 1) = s by rw [legsN_succ HX.out, HSS.out, leg1_no HNX.out])
            go_wp2_with fail
            go_roundw
            case rel => exact ⟨j + 1, bb, g2, m2, c2, g3, m3, c3, by omega, by go_num, HDX, rfl, rfl, rfl, by rw [HSX.out]; exact HN.out⟩
            case measure => simp [intOf]; omega
          · have HFA := Lib.hid hfa
            have HFB := Lib.hid hfb
            clear hfa hfb
            go_wp2_with fail
            go_region
            obtain ⟨W0, HW0⟩ : ∃ W, Hid (wr.drew = W) := ⟨_, Lib.hid rfl⟩
            rw [HW0.out]
            have HBD0 := Lib.hid (show Below wr.heap.size wr W0 by rw [← HW0.out]; exact (Below.refl _ _).drew)
            have HND := Lib.hid (HN.out.step HBD0.out)
            have d0 := (HBD0.out.cell (p := ⟨gL, j * 5, none⟩) hgL2).trans e0
            have d1 := (HBD0.out.cell (p := ⟨gL, j * 5 + 1, none⟩) hgL2).trans e1
            have d2 := (HBD0.out.cell (p := ⟨gL, j * 5 + 2, none⟩) hgL2).trans e2
            have d3 := (HBD0.out.cell (p := ⟨gL, j * 5 + 3, none⟩) hgL2).trans e3
            have d4 := (HBD0.out.cell (p := ⟨gL, j * 5 + 4, none⟩) hgL2).trans e4
            have hgL3 : gL < W0.heap.size := by have := HBD0.out.size; omega
            clear e0 e1 e2 e3 e4 HN HW0 HBD0 hgL2
            have HN := HND
            clear HND
            go_wp2_with fail
            refine (has_is (some ⟨g2, 0, none⟩) m2 c2 s.ps (a : Int) false HFA _ (by omega) (Lib.hid (ints.IL.of_own HN.out.2.2.1))).mono ?_
            rintro e w9 ⟨rfl, rfl⟩
            go_wp2_with fail
            refine (has_is (some ⟨g2, 0, none⟩) m2 c2 s.ps (b : Int) true HFB _ (by omega) (Lib.hid (ints.IL.of_own HN.out.2.2.1))).mono ?_
            rintro e w9 ⟨rfl, rfl⟩
            go_wp2_with fail
            refine (has_is (some ⟨g2, 0, none⟩) m2 c2 s.ps (a : Int) false HFA _ (by omega) (Lib.hid (ints.IL.of_own HN.out.2.2.1))).mono ?_
            rintro e w9 ⟨rfl, rfl⟩
            go_upto_region 14 with fail
            obtain ⟨p, HPP⟩ : ∃ p, Hid (at_ s.pl (b : Int) = p) := ⟨_, Lib.hid rfl⟩
            obtain ⟨d, HDD⟩ : ∃ d, Hid (shf ⟨(a : Int), (b : Int), tp, cp, sl⟩ = d) := ⟨_, Lib.hid rfl⟩
            obtain ⟨q, HQQ⟩ : ∃ q, Hid (sub3 p d = q) := ⟨_, Lib.hid rfl⟩
            have HBP := Lib.hid (show BdS p by rw [← HPP.out]; exact bd_at HOKS.out _)
            have HBD := Lib.hid (show BdS d by rw [← HDD.out]; exact bd_shf HOK.out)
            have HCS := Lib.hid (show CS w.heap.size b p gL j ⟨(a : Int), (b : Int), tp, cp, sl⟩ W0 by have hc := HN.out.cells HOKS.out.1 hb7; rw [HPP.out] at hc; exact ⟨hc, ⟨d0, d1, d2, d3, d4⟩, (HN.out.2.1.lt w.heap.size rfl).2, hgL3⟩)
            have HN0 := Lib.hid (HN.out.step (Below.refl _ _).drew)
            clear d0 d1 d2 d3 d4
            refine wp_region_held_drew (S := (fun v => v.cell? ⟨w.heap.size, b * 3, none⟩ = some (.int .i64 p.east) ∧ v.cell? ⟨w.heap.size, b * 3 + 1, none⟩ = some (.int .i64 p.north) ∧ v.cell? ⟨w.heap.size, b * 3 + 2, none⟩ = some (.int .i64 p.up) ∧ v.cell? ⟨gL, j * 5, none⟩ = some (.int .i64 (a : Int)) ∧ v.cell? ⟨gL, j * 5 + 1, none⟩ = some (.int .i64 (b : Int)) ∧ v.cell? ⟨gL, j * 5 + 2, none⟩ = some (.int .i64 tp) ∧ v.cell? ⟨gL, j * 5 + 3, none⟩ = some (.int .i64 cp) ∧ v.cell? ⟨gL, j * 5 + 4, none⟩ = some (.int .i64 sl) ∧ CS w.heap.size b p gL j ⟨(a : Int), (b : Int), tp, cp, sl⟩ v)) (by kernel_rfl) ?_ (fun hHeld => ?_)
            · exact (HCS.out.step (Below.refl _ _).drew).mk8
            refine' wpAnyH_take (i := 0) (v := ?vr2_0) rfl (by kernel_rfl) (by kernel_rfl) (by kernel_rfl) (fun _ _ _ h => h) (Or.inl ⟨by rfl, ?hyr2_0⟩) (by assumption) ?restr2_0
            case hyr2_0 => (intro w hSw; (try dsimp only at hSw); go_simp; try (with_reducible rfl))
            simp only [Act.put, List.getElem_toArray, List.getElem_cons_succ, List.getElem_cons_zero, List.setIfInBounds_toArray, List.set_cons_zero, List.set_cons_succ]
            refine' wpAnyH_take (i := 1) (v := ?vr2_1) rfl (by kernel_rfl) (by kernel_rfl) (by kernel_rfl) (fun _ _ _ h => h) (Or.inl ⟨by rfl, ?hyr2_1⟩) (by assumption) ?restr2_1
            case hyr2_1 => (intro w hSw; (try dsimp only at hSw); go_simp; try (with_reducible rfl))
            simp only [Act.put, List.getElem_toArray, List.getElem_cons_succ, List.getElem_cons_zero, List.setIfInBounds_toArray, List.set_cons_zero, List.set_cons_succ]
            refine' wpAnyH_take (i := 2) (v := ?vr2_2) rfl (by kernel_rfl) (by kernel_rfl) (by kernel_rfl) (fun _ _ _ h => h) (Or.inl ⟨by rfl, ?hyr2_2⟩) (by assumption) ?restr2_2
            case hyr2_2 => (intro w hSw; (try dsimp only at hSw); go_simp; try (with_reducible rfl))
            simp only [Act.put, List.getElem_toArray, List.getElem_cons_succ, List.getElem_cons_zero, List.setIfInBounds_toArray, List.set_cons_zero, List.set_cons_succ]
            refine' wpAnyH_take (i := 3) (v := ?vr2_3) rfl (by kernel_rfl) (by kernel_rfl) (by kernel_rfl) (fun _ _ _ h => h) (Or.inl ⟨by rfl, ?hyr2_3⟩) (by assumption) ?restr2_3
            case hyr2_3 => (intro w hSw; (try dsimp only at hSw); go_simp; try (with_reducible rfl))
            simp only [Act.put, List.getElem_toArray, List.getElem_cons_succ, List.getElem_cons_zero, List.setIfInBounds_toArray, List.set_cons_zero, List.set_cons_succ]
            refine' wpAnyH_take (i := 4) (v := ?vr2_4) rfl (by kernel_rfl) (by kernel_rfl) (by kernel_rfl) (fun _ _ _ h => h) (Or.inl ⟨by rfl, ?hyr2_4⟩) (by assumption) ?restr2_4
            case hyr2_4 => (intro w hSw; (try dsimp only at hSw); go_simp; try (with_reducible rfl))
            simp only [Act.put, List.getElem_toArray, List.getElem_cons_succ, List.getElem_cons_zero, List.setIfInBounds_toArray, List.set_cons_zero, List.set_cons_succ]
            refine' wpAnyH_take (i := 5) (v := ?vr2_5) rfl (by kernel_rfl) (by kernel_rfl) (by kernel_rfl) (fun _ _ _ h => h) (Or.inl ⟨by rfl, ?hyr2_5⟩) (by assumption) ?restr2_5
            case hyr2_5 => (intro w hSw; (try dsimp only at hSw); go_simp; try (with_reducible rfl))
            simp only [Act.put, List.getElem_toArray, List.getElem_cons_succ, List.getElem_cons_zero, List.setIfInBounds_toArray, List.set_cons_zero, List.set_cons_succ]
            refine' wpAnyH_take (i := 6) (v := ?vr2_6) rfl (by kernel_rfl) (by kernel_rfl) (by kernel_rfl) (fun _ _ _ h => h) (Or.inl ⟨by rfl, ?hyr2_6⟩) (by assumption) ?restr2_6
            case hyr2_6 => (intro w hSw; (try dsimp only at hSw); go_simp; try (with_reducible rfl))
            simp only [Act.put, List.getElem_toArray, List.getElem_cons_succ, List.getElem_cons_zero, List.setIfInBounds_toArray, List.set_cons_zero, List.set_cons_succ]
            refine' wpAnyH_take (i := 7) (v := ?vr2_7) rfl (by kernel_rfl) (by kernel_rfl) (by kernel_rfl) (fun _ _ _ h => h) (Or.inl ⟨by rfl, ?hyr2_7⟩) (by assumption) ?restr2_7
            case hyr2_7 => (intro w hSw; (try dsimp only at hSw); go_simp; try (with_reducible rfl))
            simp only [Act.put, List.getElem_toArray, List.getElem_cons_succ, List.getElem_cons_zero, List.setIfInBounds_toArray, List.set_cons_zero, List.set_cons_succ]
            refine' wpAnyH_take (i := 8) (v := ?vr2_8) rfl (by kernel_rfl) (by kernel_rfl) (by kernel_rfl) (fun _ _ _ h => h) (Or.inl ⟨by rfl, ?hyr2_8⟩) (by assumption) ?restr2_8
            case hyr2_8 => (intro w hSw; (try dsimp only at hSw); go_simp; try (with_reducible rfl))
            simp only [Act.put, List.getElem_toArray, List.getElem_cons_succ, List.getElem_cons_zero, List.setIfInBounds_toArray, List.set_cons_zero, List.set_cons_succ]
            refine' wpAnyH_take (i := 9) (v := ?vr2_9) rfl (by kernel_rfl) (by kernel_rfl) (by kernel_rfl) (fun _ _ _ h => h) (Or.inl ⟨by rfl, ?hyr2_9⟩) (by assumption) ?restr2_9
            case hyr2_9 => (intro w hSw; (try dsimp only at hSw); go_simp; try (with_reducible rfl))
            simp only [Act.put, List.getElem_toArray, List.getElem_cons_succ, List.getElem_cons_zero, List.setIfInBounds_toArray, List.set_cons_zero, List.set_cons_succ]
            refine wpAnyH_ready (rs := [10]) (by kernel_rfl) (by simp) ?_
            refine AllReadyH.cons rfl (fun K hK => ?_) AllReadyH.nil
            go_simp
            refine (shift_l ⟨(a : Int), (b : Int), tp, cp, sl⟩ d HDD _ HOK).mono ?_
            rintro e w1 ⟨rfl, b1⟩
            have HN1 := Lib.hid (HN0.out.step b1)
            refine hK.out _ _ ((hHeld.2.2.2.2.2.2.2.2.step b1).mk8) (fun hHeld1 => ?_)
            clear hK K hHeld
            have hHeld := hHeld1
            clear hHeld1
            try simp only [Act.put, List.getElem_toArray, List.getElem_cons_succ, List.getElem_cons_zero, List.setIfInBounds_toArray, List.set_cons_zero, List.set_cons_succ]
            refine wpAnyH_ready (rs := [11]) (by kernel_rfl) (by simp) ?_
            refine AllReadyH.cons rfl (fun K hK => ?_) AllReadyH.nil
            go_simp
            refine (plus_m p d q HQQ _ HBP HBD).mono ?_
            rintro e w2 ⟨rfl, b2⟩
            have HN2 := Lib.hid (HN1.out.step b2)
            refine hK.out _ _ ((hHeld.2.2.2.2.2.2.2.2.step b2).mk8) (fun hHeld1 => ?_)
            clear hK K hHeld
            have hHeld := hHeld1
            clear hHeld1
            try simp only [Act.put, List.getElem_toArray, List.getElem_cons_succ, List.getElem_cons_zero, List.setIfInBounds_toArray, List.set_cons_zero, List.set_cons_succ]
            refine' wpAnyH_take (i := 12) (v := ?vr2_12) rfl (by kernel_rfl) (by kernel_rfl) (by kernel_rfl) (fun _ _ _ h => h) (Or.inl ⟨by rfl, ?hyr2_12⟩) (by assumption) ?restr2_12
            case hyr2_12 => (intro w hSw; (try dsimp only at hSw); go_simp; try (with_reducible rfl))
            simp only [Act.put, List.getElem_toArray, List.getElem_cons_succ, List.getElem_cons_zero, List.setIfInBounds_toArray, List.set_cons_zero, List.set_cons_succ]
            clear b1 b2 HN0 HN1
            obtain ⟨y0, k0⟩ : ∃ y, w2.cell? ⟨w.heap.size, a * 3, none⟩ = some y := ⟨_, (HN2.out.cells HOKS.out.1 ha7).1⟩
            obtain ⟨y1, k1⟩ : ∃ y, w2.cell? ⟨w.heap.size, a * 3 + 1, none⟩ = some y := ⟨_, (HN2.out.cells HOKS.out.1 ha7).2.1⟩
            obtain ⟨y2, k2⟩ : ∃ y, w2.cell? ⟨w.heap.size, a * 3 + 2, none⟩ = some y := ⟨_, (HN2.out.cells HOKS.out.1 ha7).2.2⟩
            have f0 := HN2.out.fro (a * 3)
            have f1 := HN2.out.fro (a * 3 + 1)
            have f2 := HN2.out.fro (a * 3 + 2)
            refine wpAnyH_ready (rs := [13]) (by kernel_rfl) (by simp) ?_
            refine AllReadyH.cons rfl (fun K hK => ?_) AllReadyH.nil
            go_simp
            refine hK.out _ _ ((((hHeld.2.2.2.2.2.2.2.2.set (fun e => hab e.symm) hgne 0 (by omega) _).set (fun e => hab e.symm) hgne 1 (by omega) _).set (fun e => hab e.symm) hgne 2 (by omega) _).mk8) (fun hHeld1 => ?_)
            clear hK K hHeld
            have hHeld := hHeld1
            clear hHeld1
            try simp only [Act.put, List.getElem_toArray, List.getElem_cons_succ, List.getElem_cons_zero, List.setIfInBounds_toArray, List.set_cons_zero, List.set_cons_succ]
            refine wpAnyH_done (by kernel_rfl) ?_ _
            clear hHeld k0 k1 k2 f0 f1 f2
            have HN3 := Lib.hid (HN2.out.store HOKS.out.1 ha7 q)
            obtain ⟨W3, HW3⟩ : ∃ W, Hid (((w2.setCell ⟨w.heap.size, a * 3, none⟩ (.int .i64 q.east)).setCell ⟨w.heap.size, a * 3 + 1, none⟩ (.int .i64 q.north)).setCell ⟨w.heap.size, a * 3 + 2, none⟩ (.int .i64 q.up) = W) := ⟨_, Lib.hid rfl⟩
            rw [HW3.out] at HN3 ⊢
            clear HW3 HN2
            go_wp2_with fail
            refine (put_any w.heap.size g2 m2 c2 s.ps (a : Int) W3 (by omega) (Lib.hid HN3.out.1.size) (Lib.hid HN3.out.2.2.1)).mono ?_
            rintro e W4 ⟨g4, c4, rfl, ho4, b4⟩
            have HN4 := Lib.hid (show NS w w.heap.size g4 (put s.ps (a : Int)).length c4 g3 m3 c3 ⟨s.pl.set a q, put s.ps (a : Int), s.tr⟩ W4 from ⟨(HN3.out.step b4).1, (HN3.out.step b4).2.1, ho4, (HN3.out.step b4).2.2.2⟩)
            clear ho4 b4 HN3
            go_wp2_with fail
            refine (put_any w.heap.size g3 m3 c3 s.tr (j : Int) W4 (by omega) (Lib.hid HN4.out.1.size) (Lib.hid HN4.out.2.2.2)).mono ?_
            rintro e W5 ⟨g5, c5, rfl, ho5, b5⟩
            have HN5 := Lib.hid (show NS w w.heap.size g4 (put s.ps (a : Int)).length c4 g5 (put s.tr (j : Int)).length c5 ⟨s.pl.set a q, put s.ps (a : Int), put s.tr (j : Int)⟩ W5 from ⟨(HN4.out.step b5).1, (HN4.out.step b5).2.1, (HN4.out.step b5).2.2.1, ho5⟩)
            clear ho5 b5 HN4
            have HNX := Lib.hid (show legsN ts S (j + 1) = ⟨s.pl.set a q, put s.ps (a : Int), put s.tr (j : Int)⟩ by
              rw [legsN_succ HX.out, HSS.out]
              unfold leg1
              rw [if_neg (fun q => by have := mem_iff.2 q.1; rw [HFA.out] at this; cases this), if_pos ⟨mem_iff.1 HFB.out, fun q => by have := mem_iff.2 q; rw [HFA.out] at this; cases this⟩]
              rw [← HQQ.out, ← HDD.out, ← HPP.out]
              simp)
            have HDX := Lib.hid (show doesN ts S (j + 1) = true by rw [doesN_succ HX.out, HSS.out]; unfold does; simp [← mem_iff, HFA.out, HFB.out])
            go_wp2_with fail
            go_roundw
            case rel => exact ⟨j + 1, true, g4, _, c4, g5, _, c5, by omega, by go_num, HDX, rfl, rfl, rfl, by rw [HNX.out]; exact HN5.out⟩
            case measure => simp [intOf]; omega
        · cases hfb : mem s.ps (b : Int)
          · have HFA := Lib.hid hfa
            have HFB := Lib.hid hfb
            clear hfa hfb
            go_wp2_with fail
            go_region
            obtain ⟨W0, HW0⟩ : ∃ W, Hid (wr.drew = W) := ⟨_, Lib.hid rfl⟩
            rw [HW0.out]
            have HBD0 := Lib.hid (show Below wr.heap.size wr W0 by rw [← HW0.out]; exact (Below.refl _ _).drew)
            have HND := Lib.hid (HN.out.step HBD0.out)
            have d0 := (HBD0.out.cell (p := ⟨gL, j * 5, none⟩) hgL2).trans e0
            have d1 := (HBD0.out.cell (p := ⟨gL, j * 5 + 1, none⟩) hgL2).trans e1
            have d2 := (HBD0.out.cell (p := ⟨gL, j * 5 + 2, none⟩) hgL2).trans e2
            have d3 := (HBD0.out.cell (p := ⟨gL, j * 5 + 3, none⟩) hgL2).trans e3
            have d4 := (HBD0.out.cell (p := ⟨gL, j * 5 + 4, none⟩) hgL2).trans e4
            have hgL3 : gL < W0.heap.size := by have := HBD0.out.size; omega
            clear e0 e1 e2 e3 e4 HN HW0 HBD0 hgL2
            have HN := HND
            clear HND
            go_wp2_with fail
            refine (has_is (some ⟨g2, 0, none⟩) m2 c2 s.ps (a : Int) true HFA _ (by omega) (Lib.hid (ints.IL.of_own HN.out.2.2.1))).mono ?_
            rintro e w9 ⟨rfl, rfl⟩
            go_wp2_with fail
            refine (has_is (some ⟨g2, 0, none⟩) m2 c2 s.ps (b : Int) false HFB _ (by omega) (Lib.hid (ints.IL.of_own HN.out.2.2.1))).mono ?_
            rintro e w9 ⟨rfl, rfl⟩
            go_upto_region 11 with fail
            obtain ⟨p, HPP⟩ : ∃ p, Hid (at_ s.pl (a : Int) = p) := ⟨_, Lib.hid rfl⟩
            obtain ⟨d, HDD⟩ : ∃ d, Hid (shf ⟨(a : Int), (b : Int), tp, cp, sl⟩ = d) := ⟨_, Lib.hid rfl⟩
            obtain ⟨q, HQQ⟩ : ∃ q, Hid (add3 p d = q) := ⟨_, Lib.hid rfl⟩
            have HBP := Lib.hid (show BdS p by rw [← HPP.out]; exact bd_at HOKS.out _)
            have HBD := Lib.hid (show BdS d by rw [← HDD.out]; exact bd_shf HOK.out)
            have HCS := Lib.hid (show CS w.heap.size a p gL j ⟨(a : Int), (b : Int), tp, cp, sl⟩ W0 by have hc := HN.out.cells HOKS.out.1 ha7; rw [HPP.out] at hc; exact ⟨hc, ⟨d0, d1, d2, d3, d4⟩, (HN.out.2.1.lt w.heap.size rfl).2, hgL3⟩)
            have HN0 := Lib.hid (HN.out.step (Below.refl _ _).drew)
            clear d0 d1 d2 d3 d4
            refine wp_region_held_drew (S := (fun v => v.cell? ⟨w.heap.size, a * 3, none⟩ = some (.int .i64 p.east) ∧ v.cell? ⟨w.heap.size, a * 3 + 1, none⟩ = some (.int .i64 p.north) ∧ v.cell? ⟨w.heap.size, a * 3 + 2, none⟩ = some (.int .i64 p.up) ∧ v.cell? ⟨gL, j * 5, none⟩ = some (.int .i64 (a : Int)) ∧ v.cell? ⟨gL, j * 5 + 1, none⟩ = some (.int .i64 (b : Int)) ∧ v.cell? ⟨gL, j * 5 + 2, none⟩ = some (.int .i64 tp) ∧ v.cell? ⟨gL, j * 5 + 3, none⟩ = some (.int .i64 cp) ∧ v.cell? ⟨gL, j * 5 + 4, none⟩ = some (.int .i64 sl) ∧ CS w.heap.size a p gL j ⟨(a : Int), (b : Int), tp, cp, sl⟩ v)) (by kernel_rfl) ?_ (fun hHeld => ?_)
            · exact (HCS.out.step (Below.refl _ _).drew).mk8
            refine' wpAnyH_take (i := 0) (v := ?vr1_0) rfl (by kernel_rfl) (by kernel_rfl) (by kernel_rfl) (fun _ _ _ h => h) (Or.inl ⟨by rfl, ?hyr1_0⟩) (by assumption) ?restr1_0
            case hyr1_0 => (intro w hSw; (try dsimp only at hSw); go_simp; try (with_reducible rfl))
            simp only [Act.put, List.getElem_toArray, List.getElem_cons_succ, List.getElem_cons_zero, List.setIfInBounds_toArray, List.set_cons_zero, List.set_cons_succ]
            refine' wpAnyH_take (i := 1) (v := ?vr1_1) rfl (by kernel_rfl) (by kernel_rfl) (by kernel_rfl) (fun _ _ _ h => h) (Or.inl ⟨by rfl, ?hyr1_1⟩) (by assumption) ?restr1_1
            case hyr1_1 => (intro w hSw; (try dsimp only at hSw); go_simp; try (with_reducible rfl))
            simp only [Act.put, List.getElem_toArray, List.getElem_cons_succ, List.getElem_cons_zero, List.setIfInBounds_toArray, List.set_cons_zero, List.set_cons_succ]
            refine' wpAnyH_take (i := 2) (v := ?vr1_2) rfl (by kernel_rfl) (by kernel_rfl) (by kernel_rfl) (fun _ _ _ h => h) (Or.inl ⟨by rfl, ?hyr1_2⟩) (by assumption) ?restr1_2
            case hyr1_2 => (intro w hSw; (try dsimp only at hSw); go_simp; try (with_reducible rfl))
            simp only [Act.put, List.getElem_toArray, List.getElem_cons_succ, List.getElem_cons_zero, List.setIfInBounds_toArray, List.set_cons_zero, List.set_cons_succ]
            refine' wpAnyH_take (i := 3) (v := ?vr1_3) rfl (by kernel_rfl) (by kernel_rfl) (by kernel_rfl) (fun _ _ _ h => h) (Or.inl ⟨by rfl, ?hyr1_3⟩) (by assumption) ?restr1_3
            case hyr1_3 => (intro w hSw; (try dsimp only at hSw); go_simp; try (with_reducible rfl))
            simp only [Act.put, List.getElem_toArray, List.getElem_cons_succ, List.getElem_cons_zero, List.setIfInBounds_toArray, List.set_cons_zero, List.set_cons_succ]
            refine' wpAnyH_take (i := 4) (v := ?vr1_4) rfl (by kernel_rfl) (by kernel_rfl) (by kernel_rfl) (fun _ _ _ h => h) (Or.inl ⟨by rfl, ?hyr1_4⟩) (by assumption) ?restr1_4
            case hyr1_4 => (intro w hSw; (try dsimp only at hSw); go_simp; try (with_reducible rfl))
            simp only [Act.put, List.getElem_toArray, List.getElem_cons_succ, List.getElem_cons_zero, List.setIfInBounds_toArray, List.set_cons_zero, List.set_cons_succ]
            refine' wpAnyH_take (i := 5) (v := ?vr1_5) rfl (by kernel_rfl) (by kernel_rfl) (by kernel_rfl) (fun _ _ _ h => h) (Or.inl ⟨by rfl, ?hyr1_5⟩) (by assumption) ?restr1_5
            case hyr1_5 => (intro w hSw; (try dsimp only at hSw); go_simp; try (with_reducible rfl))
            simp only [Act.put, List.getElem_toArray, List.getElem_cons_succ, List.getElem_cons_zero, List.setIfInBounds_toArray, List.set_cons_zero, List.set_cons_succ]
            refine' wpAnyH_take (i := 6) (v := ?vr1_6) rfl (by kernel_rfl) (by kernel_rfl) (by kernel_rfl) (fun _ _ _ h => h) (Or.inl ⟨by rfl, ?hyr1_6⟩) (by assumption) ?restr1_6
            case hyr1_6 => (intro w hSw; (try dsimp only at hSw); go_simp; try (with_reducible rfl))
            simp only [Act.put, List.getElem_toArray, List.getElem_cons_succ, List.getElem_cons_zero, List.setIfInBounds_toArray, List.set_cons_zero, List.set_cons_succ]
            refine' wpAnyH_take (i := 7) (v := ?vr1_7) rfl (by kernel_rfl) (by kernel_rfl) (by kernel_rfl) (fun _ _ _ h => h) (Or.inl ⟨by rfl, ?hyr1_7⟩) (by assumption) ?restr1_7
            case hyr1_7 => (intro w hSw; (try dsimp only at hSw); go_simp; try (with_reducible rfl))
            simp only [Act.put, List.getElem_toArray, List.getElem_cons_succ, List.getElem_cons_zero, List.setIfInBounds_toArray, List.set_cons_zero, List.set_cons_succ]
            refine' wpAnyH_take (i := 8) (v := ?vr1_8) rfl (by kernel_rfl) (by kernel_rfl) (by kernel_rfl) (fun _ _ _ h => h) (Or.inl ⟨by rfl, ?hyr1_8⟩) (by assumption) ?restr1_8
            case hyr1_8 => (intro w hSw; (try dsimp only at hSw); go_simp; try (with_reducible rfl))
            simp only [Act.put, List.getElem_toArray, List.getElem_cons_succ, List.getElem_cons_zero, List.setIfInBounds_toArray, List.set_cons_zero, List.set_cons_succ]
            refine' wpAnyH_take (i := 9) (v := ?vr1_9) rfl (by kernel_rfl) (by kernel_rfl) (by kernel_rfl) (fun _ _ _ h => h) (Or.inl ⟨by rfl, ?hyr1_9⟩) (by assumption) ?restr1_9
            case hyr1_9 => (intro w hSw; (try dsimp only at hSw); go_simp; try (with_reducible rfl))
            simp only [Act.put, List.getElem_toArray, List.getElem_cons_succ, List.getElem_cons_zero, List.setIfInBounds_toArray, List.set_cons_zero, List.set_cons_succ]
            refine wpAnyH_ready (rs := [10]) (by kernel_rfl) (by simp) ?_
            refine AllReadyH.cons rfl (fun K hK => ?_) AllReadyH.nil
            go_simp
            refine (shift_l ⟨(a : Int), (b : Int), tp, cp, sl⟩ d HDD _ HOK).mono ?_
            rintro e w1 ⟨rfl, b1⟩
            have HN1 := Lib.hid (HN0.out.step b1)
            refine hK.out _ _ ((hHeld.2.2.2.2.2.2.2.2.step b1).mk8) (fun hHeld1 => ?_)
            clear hK K hHeld
            have hHeld := hHeld1
            clear hHeld1
            try simp only [Act.put, List.getElem_toArray, List.getElem_cons_succ, List.getElem_cons_zero, List.setIfInBounds_toArray, List.set_cons_zero, List.set_cons_succ]
            refine wpAnyH_ready (rs := [11]) (by kernel_rfl) (by simp) ?_
            refine AllReadyH.cons rfl (fun K hK => ?_) AllReadyH.nil
            go_simp
            refine (plus_p p d q HQQ _ HBP HBD).mono ?_
            rintro e w2 ⟨rfl, b2⟩
            have HN2 := Lib.hid (HN1.out.step b2)
            refine hK.out _ _ ((hHeld.2.2.2.2.2.2.2.2.step b2).mk8) (fun hHeld1 => ?_)
            clear hK K hHeld
            have hHeld := hHeld1
            clear hHeld1
            try simp only [Act.put, List.getElem_toArray, List.getElem_cons_succ, List.getElem_cons_zero, List.setIfInBounds_toArray, List.set_cons_zero, List.set_cons_succ]
            refine' wpAnyH_take (i := 12) (v := ?vr1_12) rfl (by kernel_rfl) (by kernel_rfl) (by kernel_rfl) (fun _ _ _ h => h) (Or.inl ⟨by rfl, ?hyr1_12⟩) (by assumption) ?restr1_12
            case hyr1_12 => (intro w hSw; (try dsimp only at hSw); go_simp; try (with_reducible rfl))
            simp only [Act.put, List.getElem_toArray, List.getElem_cons_succ, List.getElem_cons_zero, List.setIfInBounds_toArray, List.set_cons_zero, List.set_cons_succ]
            clear b1 b2 HN0 HN1
            obtain ⟨y0, k0⟩ : ∃ y, w2.cell? ⟨w.heap.size, b * 3, none⟩ = some y := ⟨_, (HN2.out.cells HOKS.out.1 hb7).1⟩
            obtain ⟨y1, k1⟩ : ∃ y, w2.cell? ⟨w.heap.size, b * 3 + 1, none⟩ = some y := ⟨_, (HN2.out.cells HOKS.out.1 hb7).2.1⟩
            obtain ⟨y2, k2⟩ : ∃ y, w2.cell? ⟨w.heap.size, b * 3 + 2, none⟩ = some y := ⟨_, (HN2.out.cells HOKS.out.1 hb7).2.2⟩
            have f0 := HN2.out.fro (b * 3)
            have f1 := HN2.out.fro (b * 3 + 1)
            have f2 := HN2.out.fro (b * 3 + 2)
            refine wpAnyH_ready (rs := [13]) (by kernel_rfl) (by simp) ?_
            refine AllReadyH.cons rfl (fun K hK => ?_) AllReadyH.nil
            go_simp
            refine hK.out _ _ ((((hHeld.2.2.2.2.2.2.2.2.set hab hgne 0 (by omega) _).set hab hgne 1 (by omega) _).set hab hgne 2 (by omega) _).mk8) (fun hHeld1 => ?_)
            clear hK K hHeld
            have hHeld := hHeld1
            clear hHeld1
            try simp only [Act.put, List.getElem_toArray, List.getElem_cons_succ, List.getElem_cons_zero, List.setIfInBounds_toArray, List.set_cons_zero, List.set_cons_succ]
            refine wpAnyH_done (by kernel_rfl) ?_ _
            clear hHeld k0 k1 k2 f0 f1 f2
            have HN3 := Lib.hid (HN2.out.store HOKS.out.1 hb7 q)
            obtain ⟨W3, HW3⟩ : ∃ W, Hid (((w2.setCell ⟨w.heap.size, b * 3, none⟩ (.int .i64 q.east)).setCell ⟨w.heap.size, b * 3 + 1, none⟩ (.int .i64 q.north)).setCell ⟨w.heap.size, b * 3 + 2, none⟩ (.int .i64 q.up) = W) := ⟨_, Lib.hid rfl⟩
            rw [HW3.out] at HN3 ⊢
            clear HW3 HN2
            go_wp2_with fail
            refine (put_any w.heap.size g2 m2 c2 s.ps (b : Int) W3 (by omega) (Lib.hid HN3.out.1.size) (Lib.hid HN3.out.2.2.1)).mono ?_
            rintro e W4 ⟨g4, c4, rfl, ho4, b4⟩
            have HN4 := Lib.hid (show NS w w.heap.size g4 (put s.ps (b : Int)).length c4 g3 m3 c3 ⟨s.pl.set b q, put s.ps (b : Int), s.tr⟩ W4 from ⟨(HN3.out.step b4).1, (HN3.out.step b4).2.1, ho4, (HN3.out.step b4).2.2.2⟩)
            clear ho4 b4 HN3
            go_wp2_with fail
            refine (put_any w.heap.size g3 m3 c3 s.tr (j : Int) W4 (by omega) (Lib.hid HN4.out.1.size) (Lib.hid HN4.out.2.2.2)).mono ?_
            rintro e W5 ⟨g5, c5, rfl, ho5, b5⟩
            have HN5 := Lib.hid (show NS w w.heap.size g4 (put s.ps (b : Int)).length c4 g5 (put s.tr (j : Int)).length c5 ⟨s.pl.set b q, put s.ps (b : Int), put s.tr (j : Int)⟩ W5 from ⟨(HN4.out.step b5).1, (HN4.out.step b5).2.1, (HN4.out.step b5).2.2.1, ho5⟩)
            clear ho5 b5 HN4
            have HNX := Lib.hid (show legsN ts S (j + 1) = ⟨s.pl.set b q, put s.ps (b : Int), put s.tr (j : Int)⟩ by
              rw [legsN_succ HX.out, HSS.out]
              unfold leg1
              rw [if_pos ⟨mem_iff.1 HFA.out, fun q => by have := mem_iff.2 q; rw [HFB.out] at this; cases this⟩]
              rw [← HQQ.out, ← HDD.out, ← HPP.out]
              simp)
            have HDX := Lib.hid (show doesN ts S (j + 1) = true by rw [doesN_succ HX.out, HSS.out]; unfold does; simp [← mem_iff, HFA.out, HFB.out])
            go_wp2_with fail
            go_roundw
            case rel => exact ⟨j + 1, true, g4, _, c4, g5, _, c5, by omega, by go_num, HDX, rfl, rfl, rfl, by rw [HNX.out]; exact HN5.out⟩
            case measure => simp [intOf]; omega
          · have HFA := Lib.hid hfa
            have HFB := Lib.hid hfb
            clear hfa hfb
            go_wp2_with fail
            go_region
            obtain ⟨W0, HW0⟩ : ∃ W, Hid (wr.drew = W) := ⟨_, Lib.hid rfl⟩
            rw [HW0.out]
            have HBD0 := Lib.hid (show Below wr.heap.size wr W0 by rw [← HW0.out]; exact (Below.refl _ _).drew)
            have HND := Lib.hid (HN.out.step HBD0.out)
            have d0 := (HBD0.out.cell (p := ⟨gL, j * 5, none⟩) hgL2).trans e0
            have d1 := (HBD0.out.cell (p := ⟨gL, j * 5 + 1, none⟩) hgL2).trans e1
            have d2 := (HBD0.out.cell (p := ⟨gL, j * 5 + 2, none⟩) hgL2).trans e2
            have d3 := (HBD0.out.cell (p := ⟨gL, j * 5 + 3, none⟩) hgL2).trans e3
            have d4 := (HBD0.out.cell (p := ⟨gL, j * 5 + 4, none⟩) hgL2).trans e4
            have hgL3 : gL < W0.heap.size := by have := HBD0.out.size; omega
            clear e0 e1 e2 e3 e4 HN HW0 HBD0 hgL2
            have HN := HND
            clear HND
            go_wp2_with fail
            refine (has_is (some ⟨g2, 0, none⟩) m2 c2 s.ps (a : Int) true HFA _ (by omega) (Lib.hid (ints.IL.of_own HN.out.2.2.1))).mono ?_
            rintro e w9 ⟨rfl, rfl⟩
            go_wp2_with fail
            refine (has_is (some ⟨g2, 0, none⟩) m2 c2 s.ps (b : Int) true HFB _ (by omega) (Lib.hid (ints.IL.of_own HN.out.2.2.1))).mono ?_
            rintro e w9 ⟨rfl, rfl⟩
            go_wp2_with fail
            refine (has_is (some ⟨g2, 0, none⟩) m2 c2 s.ps (b : Int) true HFB _ (by omega) (Lib.hid (ints.IL.of_own HN.out.2.2.1))).mono ?_
            rintro e w9 ⟨rfl, rfl⟩
            go_wp2_with fail
            refine (has_is (some ⟨g2, 0, none⟩) m2 c2 s.ps (a : Int) true HFA _ (by omega) (Lib.hid (ints.IL.of_own HN.out.2.2.1))).mono ?_
            rintro e w9 ⟨rfl, rfl⟩
            have HNX := Lib.hid (show does ⟨(a : Int), (b : Int), tp, cp, sl⟩ s = false by unfold does; simp [← mem_iff, HFA.out, HFB.out])
            have HDX := Lib.hid (show doesN ts S (j + 1) = bb by rw [doesN_succ HX.out, HSS.out, HNX.out, HBB.out, Bool.or_false])
            have HSX := Lib.hid (show legsN ts S (j + 1) = s by rw [legsN_succ HX.out, HSS.out, leg1_no HNX.out])
            go_wp2_with fail
            go_roundw
            case rel => exact ⟨j + 1, bb, g2, m2, c2, g3, m3, c3, by omega, by go_num, HDX, rfl, rfl, rfl, by rw [HSX.out]; exact HN.out⟩
            case measure => simp [intOf]; omega
      · have hjd : decide (j < n) = false := by simpa using hlt
        obtain rfl : n = j := by omega
        have HP1 := Lib.hid (show passes ts (k + 1) = s by show pass ts (passes ts k) = s; rw [HS.out]; unfold pass; rw [HL.out]; exact HSS.out)
        have HDN := Lib.hid (show doesN ts (passes ts k) ts.length = bb by rw [HS.out, HL.out]; exact HBB.out)
        have HQ1 := Lib.hid (show ∀ j, j < k → doesN ts (passes ts j) ts.length = true by have h := HQ.out; first | rwa [if_pos trivial] at h | rwa [if_pos rfl] at h)
        have hgrow := legs_grow (ts := ts) (s := S) n
        rw [HSS.out, HBB.out] at hgrow
        have HGR := Lib.hid hgrow
        clear hlt hgrow
        have hk7 : k ≤ 7 := passes_few hg.out HQ1.out
        go_wp2_with fail
        go_roundw
        case rel => exact ⟨k + 1, bb, g2, m2, c2, g3, m3, c3, by omega, rfl, Lib.hid (by
            cases bb
            · rw [if_neg (by decide)]
              rw [net_is (by omega) HDN.out]
              exact (passes_stop HDN.out 1).symm
            · rw [if_pos rfl]
              intro j hj
              rcases Nat.lt_or_ge j k with q | q
              · exact HQ1.out j q
              · obtain rfl : j = k := by omega
                exact HDN.out), rfl, rfl, by rw [HP1.out]; exact HN.out⟩
        case measure =>
          have h1 := HGR.out
          have h2 := HM2.out
          have h3 := HM2'.out
          cases bb
          · simp [left, sliceN]; omega
          · rw [if_pos rfl] at h1; simp [left, sliceN]; omega
end Go.Proofs.YtnpghhpcloljeabGreatDoor.nt

namespace Go.Proofs.YtnpghhpcloljeabGreatDoor.nt
open Go.RowKit
open reads base ty lg hs
set_option linter.unusedVariables false

/-- two ascending lists with the same members -/
theorem asc_ext : ∀ (l m : List Int), l.Pairwise (· < ·) → m.Pairwise (· < ·) → (∀ x, x ∈ l ↔ x ∈ m) → l = m
  | [], [], _, _, _ => rfl
  | [], b :: m, _, _, h => absurd ((h b).2 (List.mem_cons_self ..)) (by simp)
  | a :: l, [], _, _, h => absurd ((h a).1 (List.mem_cons_self ..)) (by simp)
  | a :: l, b :: m, hl, hm, h => by
    rw [List.pairwise_cons] at hl hm
    have e : a = b := by
      rcases List.mem_cons.1 ((h a).1 (List.mem_cons_self ..)) with q | q
      · exact q
      · rcases List.mem_cons.1 ((h b).2 (List.mem_cons_self ..)) with q2 | q2
        · exact q2.symm
        · have := hm.1 a q; have := hl.1 b q2; omega
    subst e
    congr 1
    refine asc_ext l m hl.2 hm.2 (fun x => ⟨fun hx => ?_, fun hx => ?_⟩)
    · rcases List.mem_cons.1 ((h x).1 (List.mem_cons_of_mem _ hx)) with q | q
      · have := hl.1 x hx; omega
      · exact q
    · rcases List.mem_cons.1 ((h x).2 (List.mem_cons_of_mem _ hx)) with q | q
      · have := hm.1 x hx; omega
      · exact q
/-- the numbers below n that a list of marks has -/
def mks (n : Nat) (l : List Int) : List Bool := (List.range n).map fun (q : Nat) => mem l (q : Int)
theorem mks_len (n : Nat) (l : List Int) : (mks n l).length = n := by simp [mks]
theorem mks_at {n q : Nat} (l : List Int) (h : q < n) : (mks n l)[q]? = some (mem l (q : Int)) := by simp [mks, h]
theorem mem_put_b (l : List Int) (a x : Int) : mem (put l a) x = (decide (x = a) || mem l x) := by
  rw [Bool.eq_iff_iff, mem_iff, mem_put, Bool.or_eq_true, decide_eq_true_eq, mem_iff]
theorem mks_put {n q : Nat} (l : List Int) (h : q < n) : (mks n l).set q true = mks n (put l (q : Int)) := by
  apply List.ext_getElem?
  intro i
  rcases Nat.lt_or_ge i n with hi | hi
  · rw [mks_at _ hi, mem_put_b]
    by_cases e : i = q
    · subst e; rw [List.getElem?_set_self (by rw [mks_len]; exact hi)]; simp
    · rw [List.getElem?_set_ne (fun k => e k.symm), mks_at _ hi, decide_eq_false (by omega), Bool.false_or]
  · rw [List.getElem?_eq_none (by rw [List.length_set, mks_len]; exact hi), List.getElem?_eq_none (by rw [mks_len]; exact hi)]
theorem mks_none (n : Nat) : mks n [] = List.replicate n false := by
  apply List.ext_getElem?
  intro i
  rcases Nat.lt_or_ge i n with hi | hi
  · rw [mks_at _ hi, List.getElem?_replicate, if_pos hi]; rfl
  · rw [List.getElem?_eq_none (by rw [mks_len]; exact hi), List.getElem?_eq_none (by simpa using hi)]
/-- the indices below k of the marks that are set -/
def tru (bs : List Bool) : Nat → List Int
  | 0 => []
  | k + 1 => match bs[k]? with
    | some true => tru bs k ++ [(k : Int)]
    | _ => tru bs k
theorem tru_yes {bs : List Bool} {k : Nat} (h : bs[k]? = some true) : tru bs (k + 1) = tru bs k ++ [(k : Int)] := by
  show (match bs[k]? with | some true => _ | _ => _) = _
  rw [h]
theorem tru_no {bs : List Bool} {k : Nat} (h : bs[k]? = some false) : tru bs (k + 1) = tru bs k := by
  show (match bs[k]? with | some true => _ | _ => _) = _
  rw [h]
theorem tru_len (bs : List Bool) : ∀ k, (tru bs k).length ≤ k
  | 0 => Nat.le_refl _
  | k + 1 => by
    have ih := tru_len bs k
    cases e : bs[k]? with
    | none => have : tru bs (k + 1) = tru bs k := by show (match bs[k]? with | some true => _ | _ => _) = _; rw [e]
              rw [this]; omega
    | some b => cases b
                · rw [tru_no e]; omega
                · rw [tru_yes e, List.length_append]; simp; omega
theorem tru_mem {n : Nat} {l : List Int} : ∀ k, k ≤ n → ∀ x, x ∈ tru (mks n l) k ↔ (x ∈ l ∧ 0 ≤ x ∧ x < k)
  | 0, _, x => by simp [tru]
  | k + 1, hk, x => by
    have ih := tru_mem (n := n) (l := l) k (by omega) x
    have e := mks_at l (show k < n by omega)
    cases h : mem l (k : Int)
    · rw [h] at e
      rw [tru_no e, ih]
      constructor
      · rintro ⟨a, b, c⟩; exact ⟨a, b, by omega⟩
      · rintro ⟨a, b, c⟩
        refine ⟨a, b, ?_⟩
        have : x ≠ k := by rintro rfl; rw [mem_iff.2 a] at h; cases h
        omega
    · rw [h] at e
      rw [tru_yes e, List.mem_append, ih, List.mem_singleton]
      constructor
      · rintro (⟨a, b, c⟩ | rfl)
        · exact ⟨a, b, by omega⟩
        · exact ⟨mem_iff.1 h, by omega, by omega⟩
      · rintro ⟨a, b, c⟩
        by_cases q : x = k
        · exact .inr q
        · exact .inl ⟨a, b, by omega⟩
theorem tru_asc {n : Nat} {l : List Int} : ∀ k, k ≤ n → (tru (mks n l) k).Pairwise (· < ·)
  | 0, _ => List.Pairwise.nil
  | k + 1, hk => by
    have ih := tru_asc (n := n) (l := l) k (by omega)
    have e := mks_at l (show k < n by omega)
    cases h : mem l (k : Int)
    · rw [h] at e; rw [tru_no e]; exact ih
    · rw [h] at e
      rw [tru_yes e, List.pairwise_append]
      refine ⟨ih, by simp, fun a ha b hb => ?_⟩
      have h1 := (tru_mem (n := n) (l := l) k (by omega) a).1 ha
      have h2 : b = k := by simpa using hb
      omega
/-- the marks of an ascending list are this list -/
theorem tru_all {n : Nat} {l : List Int} (ha : l.Pairwise (· < ·)) (hb : ∀ x ∈ l, 0 ≤ x ∧ x < n) : tru (mks n l) n = l :=
  asc_ext _ _ (tru_asc n (Nat.le_refl _)) ha (fun x => by
    rw [tru_mem (n := n) n (Nat.le_refl _)]
    exact ⟨fun h => h.1, fun h => ⟨h, hb x h⟩⟩)
theorem tru_ps {s : Net} (h : Ok s) : tru (mks 8 s.ps) 8 = s.ps := tru_all h.2.1 (fun x hx => by have := h.2.2.1 x hx; omega)
theorem tru_tr {s : Net} (h : Ok s) : tru (mks 12 s.tr) 12 = s.tr := tru_all h.2.2.2.1 (fun x hx => by have := h.2.2.2.2.1 x hx; omega)
/-- a leg by marks -/
theorem does_marks {x : Lg} {s : Net} {a b : Bool} (ha : mem s.ps x.frm = a) (hb : mem s.ps x.to_ = b) : does x s = (a != b) := by
  have e : ∀ y, decide (y ∈ s.ps) = mem s.ps y := fun y => by rw [Bool.eq_iff_iff, decide_eq_true_eq, mem_iff]
  unfold does
  rw [e, e, ha, hb]
  cases a <;> cases b <;> rfl
theorem leg1_fwd {x : Lg} {s : Net} {i : Nat} (ha : mem s.ps x.frm = true) (hb : mem s.ps x.to_ = false) : leg1 x i s = ⟨s.pl.set x.to_.toNat (add3 (at_ s.pl x.frm) (shf x)), put s.ps x.to_, put s.tr i⟩ := by
  unfold leg1
  rw [if_pos ⟨mem_iff.1 ha, fun h => by rw [mem_iff.2 h] at hb; cases hb⟩]
theorem leg1_bwd {x : Lg} {s : Net} {i : Nat} (ha : mem s.ps x.frm = false) (hb : mem s.ps x.to_ = true) : leg1 x i s = ⟨s.pl.set x.frm.toNat (sub3 (at_ s.pl x.to_) (shf x)), put s.ps x.frm, put s.tr i⟩ := by
  unfold leg1
  rw [if_neg (fun h => by rw [mem_iff.2 h.1] at ha; cases ha), if_pos ⟨mem_iff.1 hb, fun h => by rw [mem_iff.2 h] at ha; cases ha⟩]
theorem doesN_pre {ts : List Lg} {s : Net} : ∀ (n k : Nat), k ≤ n → doesN ts s n = false → doesN ts s k = false
  | 0, k, hk, h => by obtain rfl : k = 0 := by omega
                      exact h
  | n + 1, k, hk, h => by
    rcases Nat.lt_or_ge n k with q | q
    · obtain rfl : k = n + 1 := by omega
      exact h
    · refine doesN_pre n k q ?_
      cases e : ts[n]? with
      | none => have e1 : doesN ts s (n + 1) = doesN ts s n := by show (match ts[n]? with | some x => _ | none => _) = _; rw [e]
                rw [← e1]; exact h
      | some x => rw [doesN_succ e, Bool.or_eq_false_iff] at h; exact h.1
/-- no leg places a station any more -/
theorem still {ts : List Lg} {s : Net} (h : doesN ts s ts.length = false) {i : Nat} {x : Lg} (hx : ts[i]? = some x) : does x s = false := by
  have hi : i < ts.length := (List.getElem?_eq_some_iff.1 hx).1
  have h1 := doesN_pre ts.length (i + 1) (by omega) h
  rw [doesN_succ hx, Bool.or_eq_false_iff, doesN_no h1.1] at h1
  exact h1.2
theorem net_done {ts : List Lg} (hg : goodLg ts = true) : doesN ts (net ts) ts.length = false := by
  by_cases h : ∃ k, k ≤ 8 ∧ doesN ts (passes ts k) ts.length = false
  · obtain ⟨k, hk, h⟩ := h
    rw [net_is (by omega) h]; exact h
  · have := passes_few (k := 9) hg (fun j hj => by
      cases e : doesN ts (passes ts j) ts.length
      · exact absurd ⟨j, by omega, e⟩ h
      · rfl)
    omega
theorem net_ends {ts : List Lg} (hg : goodLg ts = true) {i : Nat} {x : Lg} (hx : ts[i]? = some x) : mem (net ts).ps x.frm = mem (net ts).ps x.to_ := by
  have h := still (net_done hg) hx
  rw [does_marks rfl rfl] at h
  simpa using h
end Go.Proofs.YtnpghhpcloljeabGreatDoor.nt

namespace Go.Proofs.YtnpghhpcloljeabGreatDoor.len
open Go.RowKit
open reads
set_option linter.unusedVariables false

theorem band {a x b : Int} (h0 : a ≤ x) (h1 : x ≤ b) : (decide (a ≤ x) && decide (x ≤ b)) = true := by simp [h0, h1]
theorem bout {a x b : Int} (h : ¬ (a ≤ x ∧ x ≤ b)) : (decide (a ≤ x) && decide (x ≤ b)) = false := by simp; omega
/-- an answer, memory left to the caller -/
def APost (v : Value) (w : World) (e : Ending) (w' : World) : Prop := e = .returned v ∧ Below w.heap.size w w'
theorem sq_mono {a b : Int} (h0 : 0 ≤ a) (h : a ≤ b) : a * a ≤ b * b := Int.mul_le_mul h h h0 (by omega)
theorem sq_lt {a b : Int} (ha : 0 ≤ a) (hb : 0 ≤ b) (h : a * a < b * b) : a < b := by
  rcases Int.lt_or_le a b with k | k
  · exact k
  · have := sq_mono hb k; omega
theorem sq_bd (a : Int) (a0 : -100000 ≤ a) (a1 : a ≤ 100000) : 0 ≤ a * a ∧ a * a ≤ 10000000000 := by
  have h : (a * a).natAbs ≤ 100000 * 100000 := by rw [Int.natAbs_mul]; exact Nat.mul_le_mul (by omega) (by omega)
  have h0 : 0 ≤ a * a := by
    rcases Int.le_total 0 a with k | k
    · exact Int.mul_nonneg k k
    · have := Int.mul_nonneg (show 0 ≤ -a by omega) (show 0 ≤ -a by omega)
      rw [Int.neg_mul_neg] at this; exact this
  omega
/-- the greatest whole number whose square is at most S -/
def IsRoot (S r : Int) : Prop := 0 ≤ r ∧ r * r ≤ S ∧ S < (r + 1) * (r + 1)
theorem root_uniq {S r q : Int} (h : IsRoot S r) (k : IsRoot S q) : r = q := by
  have a : r < q + 1 := sq_lt h.1 (by have := k.1; omega) (by have := h.2.1; have := k.2.2; omega)
  have b : q < r + 1 := sq_lt k.1 (by have := h.1; omega) (by have := k.2.1; have := h.2.2; omega)
  omega
def okL (e n u : Int) : Prop := (-100000 ≤ e ∧ e ≤ 100000) ∧ (-100000 ≤ n ∧ n ≤ 100000) ∧ (-100000 ≤ u ∧ u ≤ 100000)
/-- what LengthOf answers -/
def LPost (e n u : Int) (w : World) (r : Ending) (w' : World) : Prop :=
  ((okL e n u ∧ ∃ q, IsRoot (e * e + n * n + u * u) q ∧ r = .returned (.tuple #[.int .i64 q, .bool true])) ∨ (¬ okL e n u ∧ r = .returned (.tuple #[.int .i64 0, .bool false]))) ∧ Below w.heap.size w w'

end Go.Proofs.YtnpghhpcloljeabGreatDoor.len

namespace Go.Proofs.YtnpghhpcloljeabGreatDoor.nt
open Go.RowKit
open reads base ty lg hs
set_option linter.unusedVariables false

def psIds (ts : List Lg) : List Int := if goodLg ts then (net ts).ps else []
def trIds (ts : List Lg) : List Int := if goodLg ts then (net ts).tr else []
def has6 (ts : List Lg) (q : Int) : Bool := goodLg ts && mem (net ts).ps q
/-- the closing legs below k -/
def clN (ts : List Lg) (s : Net) : Nat → List Int
  | 0 => []
  | k + 1 => match ts[k]? with
    | some x => if mem s.ps x.frm && !mem s.tr (k : Int) then clN ts s k ++ [(k : Int)] else clN ts s k
    | none => clN ts s k
theorem clN_yes {ts : List Lg} {s : Net} {k : Nat} {x : Lg} (h : ts[k]? = some x) (hp : mem s.ps x.frm = true) (ht : mem s.tr (k : Int) = false) : clN ts s (k + 1) = clN ts s k ++ [(k : Int)] := by
  show (match ts[k]? with | some x => _ | none => _) = _
  rw [h]; simp only [hp, ht]; rfl
theorem clN_no {ts : List Lg} {s : Net} {k : Nat} {x : Lg} (h : ts[k]? = some x) (hp : (mem s.ps x.frm && !mem s.tr (k : Int)) = false) : clN ts s (k + 1) = clN ts s k := by
  show (match ts[k]? with | some x => _ | none => _) = _
  rw [h]; simp only [hp]; rfl
theorem clN_len (ts : List Lg) (s : Net) : ∀ k, (clN ts s k).length ≤ k
  | 0 => Nat.le_refl _
  | k + 1 => by
    have ih := clN_len ts s k
    cases e : ts[k]? with
    | none => have : clN ts s (k + 1) = clN ts s k := by show (match ts[k]? with | some x => _ | none => _) = _; rw [e]
              rw [this]; omega
    | some x =>
      cases h : (mem s.ps x.frm && !mem s.tr (k : Int))
      · rw [clN_no e h]; omega
      · rw [Bool.and_eq_true, Bool.not_eq_true'] at h
        rw [clN_yes e h.1 h.2, List.length_append]; simp; omega
def clIds (ts : List Lg) : List Int := if goodLg ts then clN ts (net ts) ts.length else []
theorem len12 {ts : List Lg} {n : Nat} (hL : ts.length = n) (hg : goodLg ts = true) : n ≤ 12 := by rw [← hL]; exact goodLg_len hg
/-- what every step keeps besides: tree legs join placed stations without an error, and as many stations are placed as there are tree legs, and one -/
def Tr (ts : List Lg) (s : Net) : Prop :=
  s.tr.length + 1 = s.ps.length ∧ at_ s.pl 0 = zero3 ∧ ∀ i ∈ s.tr, ∃ x, ts[i.toNat]? = some x ∧ 0 ≤ i ∧ i < ts.length ∧ x.frm ∈ s.ps ∧ x.to_ ∈ s.ps ∧ add3 (sub3 (shf x) (at_ s.pl x.to_)) (at_ s.pl x.frm) = zero3
theorem at_set {l : List Sf} {a b : Int} {v : Sf} (hl : l.length = 8) (ha : 0 ≤ a ∧ a ≤ 7) (hb : 0 ≤ b ∧ b ≤ 7) : at_ (l.set b.toNat v) a = if a = b then v else at_ l a := by
  unfold at_
  by_cases e : a = b
  · subst e
    rw [if_pos rfl, List.getElem?_set_self (by omega)]; rfl
  · rw [if_neg e, List.getElem?_set_ne (by omega)]
theorem sf_ext {a b : Sf} (h1 : a.east = b.east) (h2 : a.north = b.north) (h3 : a.up = b.up) : a = b := by cases a; cases b; simp_all
theorem err_fwd (p s : Sf) : add3 (sub3 s (add3 p s)) p = zero3 := sf_ext (by unfold add3 sub3 zero3; simp only []; omega) (by unfold add3 sub3 zero3; simp only []; omega) (by unfold add3 sub3 zero3; simp only []; omega)
theorem err_bwd (p s : Sf) : add3 (sub3 s p) (sub3 p s) = zero3 := sf_ext (by unfold add3 sub3 zero3; simp only []; omega) (by unfold add3 sub3 zero3; simp only []; omega) (by unfold add3 sub3 zero3; simp only []; omega)
theorem tr_start (ts : List Lg) : Tr ts start := ⟨rfl, rfl, fun i hi => by simp [start] at hi⟩
theorem tr_leg {ts : List Lg} {s : Net} {i : Nat} {x : Lg} (hg : goodLg ts = true) (ho : Ok s) (h : Tr ts s) (hx : ts[i]? = some x) : Tr ts (leg1 x i s) := by
  obtain ⟨h1, h2, h3⟩ := h
  have hi : i < ts.length := (List.getElem?_eq_some_iff.1 hx).1
  obtain ⟨l1, l2, l3, -⟩ := okLg_lim (goodLg_at hg hx)
  have ob := ho.2.2.1
  -- a leg that places a station is no tree leg yet
  have new : does x s = true → (i : Int) ∉ s.tr := fun hd hm => by
    obtain ⟨y, hy, -, -, a, b, -⟩ := h3 _ hm
    rw [Int.toNat_natCast, hx] at hy
    obtain rfl := Option.some.inj hy
    rw [does_marks (mem_iff.2 a) (mem_iff.2 b)] at hd; cases hd
  cases hd : does x s
  · rw [leg1_no hd]; exact ⟨h1, h2, h3⟩
  · have hn := new hd
    cases ha : mem s.ps x.frm
    · cases hb : mem s.ps x.to_
      · rw [does_marks ha hb] at hd; cases hd
      · rw [leg1_bwd ha hb]
        have na : x.frm ∉ s.ps := fun k => by rw [mem_iff.2 k] at ha; cases ha
        have hb' := mem_iff.1 hb
        refine ⟨by show (put s.tr _).length + 1 = (put s.ps _).length; rw [put_len_new hn, put_len_new na]; omega, ?_, ?_⟩
        · show at_ (s.pl.set x.frm.toNat _) 0 = zero3
          rw [at_set ho.1 (by omega) l1, if_neg (fun e => na (by rw [← e]; exact ho.2.2.2.2.2.1))]; exact h2
        · intro j hj
          rcases mem_put.1 hj with rfl | q
          · refine ⟨x, by rw [Int.toNat_natCast]; exact hx, by omega, by omega, mem_put.2 (.inl rfl), mem_put.2 (.inr hb'), ?_⟩
            show add3 (sub3 (shf x) (at_ (s.pl.set x.frm.toNat _) x.to_)) (at_ (s.pl.set x.frm.toNat _) x.frm) = zero3
            rw [at_set ho.1 l2 l1, if_neg (fun e => l3 e.symm), at_set ho.1 l1 l1, if_pos rfl]; exact err_bwd _ _
          · obtain ⟨y, hy, i0, i1, a, b, e⟩ := h3 _ q
            refine ⟨y, hy, i0, i1, mem_put.2 (.inr a), mem_put.2 (.inr b), ?_⟩
            show add3 (sub3 (shf y) (at_ (s.pl.set x.frm.toNat _) y.to_)) (at_ (s.pl.set x.frm.toNat _) y.frm) = zero3
            rw [at_set ho.1 (ob _ b) l1, if_neg (fun e => na (by rw [← e]; exact b)), at_set ho.1 (ob _ a) l1, if_neg (fun e => na (by rw [← e]; exact a))]; exact e
    · cases hb : mem s.ps x.to_
      · rw [leg1_fwd ha hb]
        have nb : x.to_ ∉ s.ps := fun k => by rw [mem_iff.2 k] at hb; cases hb
        have ha' := mem_iff.1 ha
        refine ⟨by show (put s.tr _).length + 1 = (put s.ps _).length; rw [put_len_new hn, put_len_new nb]; omega, ?_, ?_⟩
        · show at_ (s.pl.set x.to_.toNat _) 0 = zero3
          rw [at_set ho.1 (by omega) l2, if_neg (fun e => nb (by rw [← e]; exact ho.2.2.2.2.2.1))]; exact h2
        · intro j hj
          rcases mem_put.1 hj with rfl | q
          · refine ⟨x, by rw [Int.toNat_natCast]; exact hx, by omega, by omega, mem_put.2 (.inr ha'), mem_put.2 (.inl rfl), ?_⟩
            show add3 (sub3 (shf x) (at_ (s.pl.set x.to_.toNat _) x.to_)) (at_ (s.pl.set x.to_.toNat _) x.frm) = zero3
            rw [at_set ho.1 l1 l2, if_neg l3, at_set ho.1 l2 l2, if_pos rfl]; exact err_fwd _ _
          · obtain ⟨y, hy, i0, i1, a, b, e⟩ := h3 _ q
            refine ⟨y, hy, i0, i1, mem_put.2 (.inr a), mem_put.2 (.inr b), ?_⟩
            show add3 (sub3 (shf y) (at_ (s.pl.set x.to_.toNat _) y.to_)) (at_ (s.pl.set x.to_.toNat _) y.frm) = zero3
            rw [at_set ho.1 (ob _ b) l2, if_neg (fun e => nb (by rw [← e]; exact b)), at_set ho.1 (ob _ a) l2, if_neg (fun e => nb (by rw [← e]; exact a))]; exact e
      · rw [does_marks ha hb] at hd; cases hd
theorem tr_legs {ts : List Lg} (hg : goodLg ts = true) {s : Net} (ho : Ok s) (h : Tr ts s) : ∀ k, Tr ts (legsN ts s k)
  | 0 => h
  | k + 1 => by
    cases e : ts[k]? with
    | none => have e2 : legsN ts s (k + 1) = legsN ts s k := by show (match ts[k]? with | some x => _ | none => _) = _; rw [e]
              rw [e2]; exact tr_legs hg ho h k
    | some x => rw [legsN_succ e]; exact tr_leg hg (ok_legs hg ho k) (tr_legs hg ho h k) e
theorem tr_passes {ts : List Lg} (hg : goodLg ts = true) : ∀ k, Tr ts (passes ts k)
  | 0 => tr_start ts
  | k + 1 => tr_legs hg (ok_passes hg k) (tr_passes hg k) _
theorem tr_net {ts : List Lg} (hg : goodLg ts = true) : Tr ts (net ts) := tr_passes hg 9
def sq3 (d : Sf) : Int := d.east * d.east + d.north * d.north + d.up * d.up
theorem has_root : ∀ n : Nat, ∃ r : Int, len.IsRoot (n : Int) r
  | 0 => ⟨0, by decide, by decide, by decide⟩
  | n + 1 => by
    obtain ⟨r, h0, h1, h2⟩ := has_root n
    by_cases h : ((n + 1 : Nat) : Int) < (r + 1) * (r + 1)
    · exact ⟨r, h0, by push_cast; omega, h⟩
    · refine ⟨r + 1, by omega, by omega, ?_⟩
      have e : (r + 1 + 1) * (r + 1 + 1) = (r + 1) * (r + 1) + 2 * r + 3 := by
        rw [Int.mul_add, Int.add_mul]; omega
      rw [e]; push_cast; omega
theorem root_of (d : Sf) : ∃ r, len.IsRoot (sq3 d) r := by
  have h0 : 0 ≤ sq3 d := by
    have sq : ∀ a : Int, 0 ≤ a * a := fun a => by
      rcases Int.le_total 0 a with k | k
      · exact Int.mul_nonneg k k
      · have := Int.mul_nonneg (show 0 ≤ -a by omega) (show 0 ≤ -a by omega)
        rw [Int.neg_mul_neg] at this; exact this
    have a := sq d.east; have b := sq d.north; have c := sq d.up
    unfold sq3; omega
  obtain ⟨r, hr⟩ := has_root (sq3 d).toNat
  exact ⟨r, by rwa [Int.toNat_of_nonneg h0] at hr⟩
end Go.Proofs.YtnpghhpcloljeabGreatDoor.nt
