/-
  The network of any legs, by the program.
  Whether legs place a station, closing legs, by the model.
  The error of a leg (pure mathematics).
  Placed ends and a number between bounds under a name, by the program; a leg and a network in memory.
  Closing legs.
  Placed stations, tree legs, closing legs.
  What the program's networks keep, of valid legs and of others.
  Conditions: those that each theorem names.
-/
import Derived.Test.YtnpghhpcloljeabGreatDoorNqF
import Derived.Test.YtnpghhpcloljeabGreatDoorNtCq
import Derived.Deep.RegionHeld3
namespace Go.Proofs.YtnpghhpcloljeabGreatDoor.nq
open Go.RowKit
open reads base ty lg lgi win hs nt rowi sn
set_option linter.unusedVariables false
set_option linter.unusedSimpArgs false

def netS (ts : List Lg) : Net := if goodLg ts then net ts else none6
def clS (ts : List Lg) : List Bool := if goodLg ts then clM ts (net ts) ts.length else off12
theorem nok_S (ts : List Lg) : NOk (netS ts) (clS ts) := by
  unfold netS clS
  cases h : goodLg ts
  · exact ok_none
  · exact ⟨(ok_net h).1, clM_len _ _ _⟩
theorem net_any (A : Option Addr) (n cap : Nat) (ts : List Lg) (C : Array Value) (g : Bool) (HC : Hid (nv (netS ts) (clS ts) = C)) (HG : Hid (goodLg ts = g)) (w : World) (hn : n ≤ 2000000) (hts : Hid (LgAt w w.heap.size A n ts)) (hT : Hid (Tab w)) :
    Calls Tryz.prog 69 #[.slice A n cap] w (APost (.tuple #[.agg C, .bool g]) w) := by
  have hc := HC.out
  unfold netS clS at hc
  cases g
  · rw [HG.out] at hc
    rw [← hc]
    exact net_bad A n cap ts w hn HG hts
  · rw [HG.out] at hc
    rw [← hc]
    exact net_good A n cap ts w hn HG hts hT
theorem tru_none (n : Nat) (h : n ≤ 12) : tru (mks n []) n = [] := tru_all List.Pairwise.nil (fun x hx => by cases hx)
theorem ps_S (ts : List Lg) : tru (mks 8 (netS ts).ps) 8 = psIds ts := by
  unfold netS psIds
  cases h : goodLg ts
  · exact tru_none 8 (by decide)
  · exact tru_ps (ok_net h)
theorem tr_S (ts : List Lg) : tru (mks 12 (netS ts).tr) 12 = trIds ts := by
  unfold netS trIds
  cases h : goodLg ts
  · exact tru_none 12 (by decide)
  · exact tru_tr (ok_net h)
theorem cl_S (ts : List Lg) : tru (clS ts) 12 = clIds ts := by
  unfold clS clIds
  cases h : goodLg ts
  · exact tru_none 12 (by decide)
  · exact clM_all h _
theorem psIds_len (ts : List Lg) : (psIds ts).length ≤ 12 := by
  unfold psIds
  cases h : goodLg ts
  · exact Nat.zero_le _
  · exact Nat.le_trans (ok_net h).ps_len (by decide)
theorem trIds_len (ts : List Lg) : (trIds ts).length ≤ 12 := by
  unfold trIds
  cases h : goodLg ts
  · exact Nat.zero_le _
  · exact (ok_net h).tr_len
theorem clIds_len (ts : List Lg) : (clIds ts).length ≤ 12 := by
  unfold clIds
  cases h : goodLg ts
  · exact Nat.zero_le _
  · exact Nat.le_trans (clN_len ts (net ts) ts.length) (goodLg_len h)
theorem bs_ps {w : World} {g : Nat} {s : Net} {cl : List Bool} (h : Blk w g 76 (nv s cl)) : BsAt w g 0 (mks 8 s.ps) := fun k b hk => by
  have hl : k < 8 := by have := (List.getElem?_eq_some_iff.1 hk).1; rwa [mks_len] at this
  rw [mks_at _ hl] at hk
  exact ⟨h.lt, by rw [Nat.zero_add, h.cell, nv_ps hl, Option.some.inj hk]⟩
theorem bs_tr {w : World} {g : Nat} {s : Net} {cl : List Bool} (hn : NOk s cl) (h : Blk w g 76 (nv s cl)) : BsAt w g 32 (mks 12 s.tr) := fun k b hk => by
  have hl : k < 12 := by have := (List.getElem?_eq_some_iff.1 hk).1; rwa [mks_len] at this
  rw [mks_at _ hl] at hk
  exact ⟨h.lt, by rw [h.cell, nv_tr hn hl, Option.some.inj hk]⟩
theorem bs_cl {w : World} {g : Nat} {s : Net} {cl : List Bool} (hn : NOk s cl) (h : Blk w g 76 (nv s cl)) : BsAt w g 44 cl := fun k b hk => ⟨h.lt, by rw [h.cell, nv_cl hn hk]⟩
/-- a network laid into a new block -/
theorem lay_net {C : Array Value} (h0 : C.size = 56) (h1 : C.all (·.oneCell') = true) (w : World) : (storeCells ⟨w.heap.size, 0, none⟩ C.toList 0).run Tryz.prog (w.alloc (.cells #[.bool false, .bool false, .bool false, .bool false, .bool false, .bool false, .bool false, .bool false, .int .i64 0, .int .i64 0, .int .i64 0, .int .i64 0, .int .i64 0, .int .i64 0, .int .i64 0, .int .i64 0, .int .i64 0, .int .i64 0, .int .i64 0, .int .i64 0, .int .i64 0, .int .i64 0, .int .i64 0, .int .i64 0, .int .i64 0, .int .i64 0, .int .i64 0, .int .i64 0, .int .i64 0, .int .i64 0, .int .i64 0, .int .i64 0, .bool false, .bool false, .bool false, .bool false, .bool false, .bool false, .bool false, .bool false, .bool false, .bool false, .bool false, .bool false, .bool false, .bool false, .bool false, .bool false, .bool false, .bool false, .bool false, .bool false, .bool false, .bool false, .bool false, .bool false] 76)) = .ok () (w.alloc (.cells C 76)) :=
  run_storeCells_new w 76 #[.bool false, .bool false, .bool false, .bool false, .bool false, .bool false, .bool false, .bool false, .int .i64 0, .int .i64 0, .int .i64 0, .int .i64 0, .int .i64 0, .int .i64 0, .int .i64 0, .int .i64 0, .int .i64 0, .int .i64 0, .int .i64 0, .int .i64 0, .int .i64 0, .int .i64 0, .int .i64 0, .int .i64 0, .int .i64 0, .int .i64 0, .int .i64 0, .int .i64 0, .int .i64 0, .int .i64 0, .int .i64 0, .int .i64 0, .bool false, .bool false, .bool false, .bool false, .bool false, .bool false, .bool false, .bool false, .bool false, .bool false, .bool false, .bool false, .bool false, .bool false, .bool false, .bool false, .bool false, .bool false, .bool false, .bool false, .bool false, .bool false, .bool false, .bool false] C (by rw [sizeNet, h0]) (by rw [h0]; rfl) h1
end Go.Proofs.YtnpghhpcloljeabGreatDoor.nq

namespace Go.Proofs.YtnpghhpcloljeabGreatDoor.nt
open Go.RowKit
open reads base ty lg rowi hs
set_option linter.unusedVariables false
set_option linter.unusedSimpArgs false

/-- a list of its own -/
def IPo (xs : List Int) (w : World) (e : Ending) (w' : World) : Prop :=
  ∃ v, e = .returned v ∧ w'.ownsRow w.heap.size 3 1 v xs.length (ints.intsV xs) ∧ Below w.heap.size w w'
set_option maxHeartbeats 8000000 in
set_option maxRecDepth 100000 in
theorem closing_any (A : Option Addr) (n cap : Nat) (ts : List Lg) (N : Net) (HNN : Hid (net ts = N)) (w : World) (hg : Hid (goodLg ts = true)) (hts : Hid (LgAt w w.heap.size A n ts)) :
    Calls Tryz.prog 121 #[.slice A n cap] w (IPo (clN ts N ts.length) w) := by
  obtain ⟨i0, hi, hz0, hz1, hz2⟩ := info_parts infoI
  have HL := Lib.hid hts.out.1
  have hn12 := len12 HL.out hg.out
  have HON := Lib.hid (ok_net hg.out)
  have hp8 := HON.out.ps_len
  have ht12 := HON.out.tr_len
  have HA := Lib.hid (hts.out.alloc (.cells #[] 3))
  have HR0 := Lib.hid (show (w.alloc (.cells #[] 3)).ownsRow w.heap.size 3 1 (.slice (some ⟨w.heap.size, 0, none⟩) 0 0) 0 [] from World.ownsRow_made w #[] 0 (Nat.le_refl _) (by decide) (by simp))
  have HB0 := Lib.hid ((Below.refl w.heap.size w).alloc (Nat.le_refl _) (.cells #[] 3))
  go_enter Tryz.func121, Tryz.ntmps121
  go_wp2_with fail
  refine (place_any A n cap ts _ hg HA).mono ?_
  rintro e w1 ⟨g1, g2, c2, g3, c3, rfl, hN⟩
  rw [HNN.out] at hN hp8 ht12 ⊢
  obtain ⟨m2, HM2⟩ : ∃ m, Hid (N.ps.length = m) := ⟨_, Lib.hid rfl⟩
  obtain ⟨m3, HM3⟩ : ∃ m, Hid (N.tr.length = m) := ⟨_, Lib.hid rfl⟩
  rw [HM2.out] at hN hp8 ⊢
  rw [HM3.out] at hN ht12 ⊢
  have HB1 := Lib.hid (HB0.out.trans (hN.1.mono HB0.out.size))
  have HR1 := Lib.hid (row_below HR0.out hN.1)
  have HP1 := Lib.hid hN.2.2.1
  have HT1 := Lib.hid hN.2.2.2
  have hgs : w.heap.size < (w.alloc (.cells #[] 3)).heap.size := by simp
  have HUP := Lib.hid (show w.heap.size + 1 ≤ g2 ∧ w.heap.size + 1 ≤ g3 by have h1 := (hN.2.2.1.lt g2 rfl).1; have h2 := (hN.2.2.2.lt g3 rfl).1; simp at h1 h2; omega)
  obtain ⟨sb, HSB⟩ : ∃ s, Hid ((w.alloc (.cells #[] 3)).heap.size = s) := ⟨_, Lib.hid rfl⟩
  rw [HSB.out] at HP1 HT1
  have HNE0 := Lib.hid (show ∀ g, (Value.slice (some ⟨w.heap.size, 0, none⟩) 0 0).ownBlock = some g → ¬ g = g2 ∧ ¬ g = g3 from fun g e => by
    have h1 := HUP.out
    have e2 : w.heap.size = g := by simpa [Value.ownBlock] using e
    omega)
  clear hN HB0 HR0 HA hgs
  go_wp2_with fail
  go_loopw [3, 7] (fun v i wr => ∃ (k m c : Nat) (A2 : Option Addr), k ≤ n ∧ i = .int .i64 (k : Nat) ∧ m ≤ k ∧ v = .slice A2 m c ∧ Hid ((clN ts N k).length = m) ∧ (∀ g, (Value.slice A2 m c).ownBlock = some g → ¬ g = g2 ∧ ¬ g = g3) ∧ wr.ownsRow w.heap.size 3 1 (.slice A2 m c) m (ints.intsV (clN ts N k)) ∧ wr.ownsRow sb 3 1 (.slice (some ⟨g2, 0, none⟩) m2 c2) m2 (ints.intsV N.ps) ∧ wr.ownsRow sb 3 1 (.slice (some ⟨g3, 0, none⟩) m3 c3) m3 (ints.intsV N.tr) ∧ Below w.heap.size w wr) (fun _ i _ => n - (intOf i).toNat)
  case atStart => exact ⟨0, 0, 0, _, Nat.zero_le _, rfl, Nat.le_refl _, rfl, Lib.hid rfl, HNE0.out, HR1.out, HP1.out, HT1.out, HB1.out⟩
  case round =>
    obtain ⟨k, m, c, A2, hk, rfl, hmk, rfl, HM, hne, hO, hP, hT, hB⟩ := hrel
    have HO := Lib.hid hO
    have HP := Lib.hid hP
    have HT := Lib.hid hT
    have HB := Lib.hid hB
    have HNE := Lib.hid hne
    have hBs := hB.size
    clear hO hP hT hB hne HR1 HP1 HT1 HB1
    have hk0 : (0 : Int) ≤ (k : Int) := by omega
    by_cases hlt : k < n
    · obtain ⟨x, hx⟩ := at_lt HL.out hlt
      obtain ⟨gL, rfl, hgL, e0, e1, e2, e3, e4⟩ := (hts.out.below HB.out).2 k x hx
      have HX := Lib.hid hx
      clear hx e1 e2 e3 e4
      have hki : (k : Int) < (n : Int) := by omega
      have hkd : decide (k < n) = true := by simpa using hlt
      cases hfa : mem N.ps x.frm
      · have HFA := Lib.hid hfa
        have HC := Lib.hid (clN_no (s := N) HX.out (by rw [hfa]; rfl))
        clear hfa
        go_wp2_with fail
        refine (has_is (some ⟨g2, 0, none⟩) m2 c2 N.ps x.frm false HFA _ (by omega) (Lib.hid (ints.IL.of_own HP.out))).mono ?_
        rintro e w9 ⟨rfl, rfl⟩
        go_wp2_with fail
        go_roundw
        case rel => exact ⟨k + 1, m, c, A2, by omega, by go_num, by omega, rfl, Lib.hid (by rw [HC.out]; exact HM.out), HNE.out, by rw [HC.out]; exact HO.out, HP.out, HT.out, HB.out⟩
        case measure => simp [intOf]; omega
      · have HFA := Lib.hid hfa
        cases hfb : mem N.tr (k : Int)
        · have HFB := Lib.hid hfb
          have HC := Lib.hid (clN_yes (s := N) HX.out hfa hfb)
          clear hfa hfb
          go_wp2_with fail
          refine (has_is (some ⟨g2, 0, none⟩) m2 c2 N.ps x.frm true HFA _ (by omega) (Lib.hid (ints.IL.of_own HP.out))).mono ?_
          rintro e w9 ⟨rfl, rfl⟩
          go_wp2_with fail
          refine (has_is (some ⟨g3, 0, none⟩) m3 c3 N.tr (k : Int) false HFB _ (by omega) (Lib.hid (ints.IL.of_own HT.out))).mono ?_
          rintro e w9 ⟨rfl, rfl⟩
          go_wp2_with (at_builtin; refine wpList_append_lies _ rfl _ _ 27 rfl w.heap.size 3 i0 (.int .i64 0) 1 8 Tryz.underlying27 hi hz0 hz1 hz2 rfl (by decide) _ _ _ rfl (HO.out.alloc _) ⟨wr.heap.size, 0, none⟩ 1 1 [.int .i64 (k : Int)] rfl rfl (cell_one_new _ _ _) (by simp [Value.oneCell']) (by decide) (by unfold maxLen; omega) (by omega) (by simp; omega) _ rfl ?_; intro g9 c9 w3 hown' hgrow hat hlt9)
          have hg2 := (HP.out.lt g2 rfl).2
          have hg3 := (HT.out.lt g3 rfl).2
          have HNE9 := Lib.hid (show ¬ g9 = g2 ∧ ¬ g9 = g3 by
            rcases hat with q | q
            · exact HNE.out g9 q
            · simp at q; omega)
          have HAL := Lib.hid ((Below.refl wr.heap.size wr).alloc (Nat.le_refl _) (.cells #[.int .i64 (k : Int)] 3))
          have HP9 := Lib.hid ((row_below HP.out HAL.out).kept hgrow (.inr (fun e => by have := (HNE.out g2 e.symm).1; exact this rfl)))
          have HT9 := Lib.hid ((row_below HT.out HAL.out).kept hgrow (.inr (fun e => by have := (HNE.out g3 e.symm).2; exact this rfl)))
          have HB9 := Lib.hid ((HB.out.trans (HAL.out.mono hBs)).grown hgrow (by simp; omega) (fun g e => (HO.out.lt g e).1))
          have HO9 := Lib.hid (show w3.ownsRow w.heap.size 3 1 (.slice (some ⟨g9, 0, none⟩) (m + 1) c9) (m + 1) (ints.intsV (clN ts N (k + 1))) by rw [HC.out, intsV_app]; exact hown')
          clear hown' hgrow hat
          go_wp2_with fail
          go_roundw
          case rel => exact ⟨k + 1, m + 1, c9, some ⟨g9, 0, none⟩, by omega, by go_num, by omega, rfl, Lib.hid (by rw [HC.out, List.length_append, HM.out]; rfl), fun g e => by
            have e2 : g9 = g := by simpa [Value.ownBlock] using e
            subst e2; exact HNE9.out, HO9.out, HP9.out, HT9.out, HB9.out⟩
          case measure => simp [intOf]; omega
        · have HFB := Lib.hid hfb
          have HC := Lib.hid (clN_no (s := N) HX.out (by rw [hfa, hfb]; rfl))
          clear hfa hfb
          go_wp2_with fail
          refine (has_is (some ⟨g2, 0, none⟩) m2 c2 N.ps x.frm true HFA _ (by omega) (Lib.hid (ints.IL.of_own HP.out))).mono ?_
          rintro e w9 ⟨rfl, rfl⟩
          go_wp2_with fail
          refine (has_is (some ⟨g3, 0, none⟩) m3 c3 N.tr (k : Int) true HFB _ (by omega) (Lib.hid (ints.IL.of_own HT.out))).mono ?_
          rintro e w9 ⟨rfl, rfl⟩
          go_wp2_with fail
          go_roundw
          case rel => exact ⟨k + 1, m, c, A2, by omega, by go_num, by omega, rfl, Lib.hid (by rw [HC.out]; exact HM.out), HNE.out, by rw [HC.out]; exact HO.out, HP.out, HT.out, HB.out⟩
          case measure => simp [intOf]; omega
    · have hkd : decide (k < n) = false := by simpa using hlt
      obtain rfl : n = k := by omega
      have HFIN := Lib.hid (show wr.ownsRow w.heap.size 3 1 (.slice A2 m c) (clN ts N ts.length).length (ints.intsV (clN ts N ts.length)) by rw [HL.out, HM.out]; exact HO.out)
      clear hlt
      go_wp2_with fail
      go_ret
      exact ⟨_, rfl, HFIN.out, HB.out⟩
end Go.Proofs.YtnpghhpcloljeabGreatDoor.nt

namespace Go.Proofs.YtnpghhpcloljeabGreatDoor.nt
open Go.RowKit
open reads base inn ty lg hs
set_option linter.unusedVariables false

/-- the error of a leg -/
def errV (ts : List Lg) (x : Lg) : Sf := add3 (sub3 (shf x) (at_ (net ts).pl x.to_)) (at_ (net ts).pl x.frm)
def erAt (ts : List Lg) (q : Int) : Bool := match ts[q.toNat]? with
  | some x => mem (net ts).ps x.frm
  | none => false
def erOk (ts : List Lg) (q : Int) : Bool := goodLg ts && (btw 0 q ((ts.length : Int) - 1) && erAt ts q)
def erV (ts : List Lg) (q : Int) : Sf := match ts[q.toNat]? with
  | some x => errV ts x
  | none => zero3
/-- ErrorOf's answer -/
def ansEr (ts : List Lg) (q : Int) : Value := if erOk ts q then .tuple #[.agg #[.int .i64 (erV ts q).east, .int .i64 (erV ts q).north, .int .i64 (erV ts q).up], .bool true] else .tuple #[.agg #[.int .i64 0, .int .i64 0, .int .i64 0], .bool false]
def Bd4 (z : Sf) : Prop := (-4000 ≤ z.east ∧ z.east ≤ 4000) ∧ (-4000 ≤ z.north ∧ z.north ≤ 4000) ∧ (-4000 ≤ z.up ∧ z.up ≤ 4000)
theorem bd4_at {s : Net} (h : Ok s) (x : Int) : Bd4 (at_ s.pl x) := by have h1 := at_bd h x; have h2 := h.ps_len; unfold Bd4; omega
end Go.Proofs.YtnpghhpcloljeabGreatDoor.nt

namespace Go.Proofs.YtnpghhpcloljeabGreatDoor.nq
open Go.RowKit
open reads base ty lg lgi win hs nt rowi sn
set_option linter.unusedVariables false
set_option linter.unusedSimpArgs false

theorem ends_c {s : Net} {cl : List Bool} {C : Array Value} (HC : Hid (nv s cl = C)) (x : Lg) (p q : Bool) (w : World) (hx : Hid (okLg x = true)) (hp : Hid (mem s.ps x.frm = p)) (hq : Hid (mem s.ps x.to_ = q)) :
    Calls Tryz.prog 75 #[.agg C, .agg #[.int .i64 x.frm, .int .i64 x.to_, .int .i64 x.tape, .int .i64 x.comp, .int .i64 x.slope]] w (BPost (p && q) w) := by
  rw [← HC.out]; exact ends_any s cl x p q w hx hp hq
theorem within_dr (lo hi z : Int) (b : Bool) (W : World) (g : Nat) (hg : W.heap.size = g) (hb : allIn lo hi [z] = b) :
    Calls Tryz.prog 73 #[.int .i64 lo, .int .i64 hi, .slice (some ⟨g, 0, none⟩) 1 1] (W.alloc (.cells #[.int .i64 z] 3)).drew fun e w' => e = .returned (.bool b) ∧ (W.alloc (.cells #[.int .i64 z] 3)).drew = w' := by
  subst hg
  rw [← hb]
  have h0 : IntsAt (W.alloc (.cells #[.int .i64 z] 3)) W.heap.size [z] := ints_new W 3 [z]
  exact within_any lo hi W.heap.size 1 1 [z] _ (Lib.hid rfl) (by decide) (Lib.hid h0)
/-- a leg in a list, a network -/
def LW (gL k G : Nat) (x : Lg) (C : Array Value) (v : World) : Prop := (v.cell? ⟨gL, k * 5, none⟩ = some (.int .i64 x.frm) ∧ v.cell? ⟨gL, k * 5 + 1, none⟩ = some (.int .i64 x.to_) ∧ v.cell? ⟨gL, k * 5 + 2, none⟩ = some (.int .i64 x.tape) ∧ v.cell? ⟨gL, k * 5 + 3, none⟩ = some (.int .i64 x.comp) ∧ v.cell? ⟨gL, k * 5 + 4, none⟩ = some (.int .i64 x.slope)) ∧ gL < v.heap.size ∧ Blk v G 76 C
theorem LW.step {gL k G : Nat} {x : Lg} {C : Array Value} {v v' : World} (h : LW gL k G x C v) (hb : Below v.heap.size v v') : LW gL k G x C v' := by
  obtain ⟨⟨q0, q1, q2, q3, q4⟩, l, B⟩ := h
  have A : ∀ o, v'.cell? ⟨gL, o, none⟩ = v.cell? ⟨gL, o, none⟩ := fun o => hb.cell (p := ⟨gL, o, none⟩) l
  exact ⟨⟨(A _).trans q0, (A _).trans q1, (A _).trans q2, (A _).trans q3, (A _).trans q4⟩, by have := hb.size; omega, B.below hb B.lt⟩
theorem LW.mk6 {gL k G : Nat} {x : Lg} {C : Array Value} {v : World} (h : LW gL k G x C v) : v.cell? ⟨gL, k * 5, none⟩ = some (.int .i64 x.frm) ∧ v.cell? ⟨gL, k * 5 + 1, none⟩ = some (.int .i64 x.to_) ∧ v.cell? ⟨gL, k * 5 + 2, none⟩ = some (.int .i64 x.tape) ∧ v.cell? ⟨gL, k * 5 + 3, none⟩ = some (.int .i64 x.comp) ∧ v.cell? ⟨gL, k * 5 + 4, none⟩ = some (.int .i64 x.slope) ∧ LW gL k G x C v := ⟨h.1.1, h.1.2.1, h.1.2.2.1, h.1.2.2.2.1, h.1.2.2.2.2, h⟩
/-- a leg in a box, a network -/
def LB (X G : Nat) (x : Lg) (C : Array Value) (v : World) : Prop := Blk v X 87 #[.int .i64 x.frm, .int .i64 x.to_, .int .i64 x.tape, .int .i64 x.comp, .int .i64 x.slope] ∧ Blk v G 76 C
theorem LB.step {X G : Nat} {x : Lg} {C : Array Value} {v v' : World} (h : LB X G x C v) (hb : Below v.heap.size v v') : LB X G x C v' := ⟨h.1.below hb h.1.lt, h.2.below hb h.2.lt⟩
theorem LB.mk6 {X G : Nat} {x : Lg} {C : Array Value} {v : World} (h : LB X G x C v) : v.cell? ⟨X, 0, none⟩ = some (.int .i64 x.frm) ∧ v.cell? ⟨X, 1, none⟩ = some (.int .i64 x.to_) ∧ v.cell? ⟨X, 2, none⟩ = some (.int .i64 x.tape) ∧ v.cell? ⟨X, 3, none⟩ = some (.int .i64 x.comp) ∧ v.cell? ⟨X, 4, none⟩ = some (.int .i64 x.slope) ∧ LB X G x C v := ⟨h.1.cell 0, h.1.cell 1, h.1.cell 2, h.1.cell 3, h.1.cell 4, h⟩
end Go.Proofs.YtnpghhpcloljeabGreatDoor.nq

namespace Go.Proofs.YtnpghhpcloljeabGreatDoor.nq
open Go.RowKit
open reads base ty lg lgi win hs nt rowi sn
set_option linter.unusedVariables false
set_option linter.unusedSimpArgs false

set_option maxHeartbeats 8000000 in
set_option maxRecDepth 100000 in
theorem closing_impl (A : Option Addr) (n cap : Nat) (ts : List Lg) (w : World) (hn : n ≤ 2000000) (hts : Hid (LgAt w w.heap.size A n ts)) (hT : Hid (Tab w)) :
    Calls Tryz.prog 14 #[.slice A n cap] w (LPost (clIds ts) (goodLg ts) w) := by
  obtain ⟨C, HC⟩ : ∃ C, Hid (nv (netS ts) (clS ts) = C) := ⟨_, Lib.hid rfl⟩
  obtain ⟨g, HG⟩ : ∃ g, Hid (goodLg ts = g) := ⟨_, Lib.hid rfl⟩
  have hcz : C.size = 56 := by rw [← HC.out]; exact nv_size (nok_S ts)
  have HC1 := Lib.hid (show C.all (·.oneCell') = true by rw [← HC.out]; exact nv_one)
  rw [HG.out]
  go_enter Tryz.func14, Tryz.ntmps14
  go_wp2_with fail
  refine (net_any A n cap ts C g HC HG w hn hts hT).mono ?_
  rintro e w1 ⟨rfl, b1⟩
  have HB1 := Lib.hid b1
  clear b1
  have hst := lay_net hcz HC1.out w1
  have HB2 := Lib.hid (HB1.out.alloc HB1.out.size (.cells C 76))
  have HN2 := Lib.hid (show BsAt (w1.alloc (.cells C 76)) w1.heap.size 44 (clS ts) from bs_cl (nok_S ts) (by rw [HC.out]; exact Blk.new _ _ _))
  go_wp2_with fail
  clear hst
  refine (marked_any w1.heap.size 44 12 _ _ (Lib.hid ((nok_S ts).2)) (by decide) HN2).mono ?_
  rintro e w2 ⟨A2, c2, rfl, hO, b2⟩
  have HF := Lib.hid (cl_S ts)
  rw [HF.out] at hO ⊢
  have HO := Lib.hid (own_mono hO HB2.out.size)
  have HB := Lib.hid (HB2.out.trans (b2.mono HB2.out.size))
  clear hO b2 HN2 HB2
  go_wp2_with fail
  go_ret2
  exact ⟨_, rfl, HO.out, HB.out⟩
end Go.Proofs.YtnpghhpcloljeabGreatDoor.nq

namespace Go.Proofs.YtnpghhpcloljeabGreatDoor.nq
open Go.RowKit
open reads base ty lg lgi win hs nt rowi sn
set_option linter.unusedVariables false
set_option linter.unusedSimpArgs false

set_option maxHeartbeats 8000000 in
set_option maxRecDepth 100000 in
theorem placed_impl (A : Option Addr) (n cap : Nat) (ts : List Lg) (w : World) (hn : n ≤ 2000000) (hts : Hid (LgAt w w.heap.size A n ts)) (hT : Hid (Tab w)) :
    Calls Tryz.prog 13 #[.slice A n cap] w (LPost (psIds ts) (goodLg ts) w) := by
  obtain ⟨C, HC⟩ : ∃ C, Hid (nv (netS ts) (clS ts) = C) := ⟨_, Lib.hid rfl⟩
  obtain ⟨g, HG⟩ : ∃ g, Hid (goodLg ts = g) := ⟨_, Lib.hid rfl⟩
  have hcz : C.size = 56 := by rw [← HC.out]; exact nv_size (nok_S ts)
  have HC1 := Lib.hid (show C.all (·.oneCell') = true by rw [← HC.out]; exact nv_one)
  rw [HG.out]
  go_enter Tryz.func13, Tryz.ntmps13
  go_wp2_with fail
  refine (net_any A n cap ts C g HC HG w hn hts hT).mono ?_
  rintro e w1 ⟨rfl, b1⟩
  have HB1 := Lib.hid b1
  clear b1
  have hst := lay_net hcz HC1.out w1
  have HB2 := Lib.hid (HB1.out.alloc HB1.out.size (.cells C 76))
  have HN2 := Lib.hid (show BsAt (w1.alloc (.cells C 76)) w1.heap.size 0 (mks 8 (netS ts).ps) from bs_ps (by rw [HC.out]; exact Blk.new _ _ _))
  go_wp2_with fail
  clear hst
  refine (marked_any w1.heap.size 0 8 _ _ (Lib.hid (mks_len _ _)) (by decide) HN2).mono ?_
  rintro e w2 ⟨A2, c2, rfl, hO, b2⟩
  have HF := Lib.hid (ps_S ts)
  rw [HF.out] at hO ⊢
  have HO := Lib.hid (own_mono hO HB2.out.size)
  have HB := Lib.hid (HB2.out.trans (b2.mono HB2.out.size))
  clear hO b2 HN2 HB2
  go_wp2_with fail
  go_ret2
  exact ⟨_, rfl, HO.out, HB.out⟩
end Go.Proofs.YtnpghhpcloljeabGreatDoor.nq

namespace Go.Proofs.YtnpghhpcloljeabGreatDoor.nq
open Go.RowKit
open reads base ty lg lgi win hs nt rowi sn
set_option linter.unusedVariables false

/-- what the program's networks keep, of valid legs and of others -/
def Q6 (s : Net) : Prop := s.pl.length = 8 ∧ (∀ x ∈ s.ps, 0 ≤ x ∧ x ≤ 7) ∧ s.ps.length ≤ 8 ∧ ∀ x, Bd4 (at_ s.pl x)
theorem q6 (ts : List Lg) : Q6 (netS ts) := by
  unfold netS
  cases h : goodLg ts
  · refine ⟨rfl, (fun x hx => by cases hx), Nat.zero_le _, fun x => ?_⟩
    have e : at_ none6.pl x = zero3 := by
      show ((List.replicate 8 zero3)[x.toNat]?).getD zero3 = zero3
      rw [List.getElem?_replicate]; split <;> rfl
    show Bd4 (at_ none6.pl x)
    rw [e]; unfold Bd4 zero3; decide
  · have ho := ok_net h
    exact ⟨ho.1, ho.2.2.1, ho.ps_len, bd4_at ho⟩
end Go.Proofs.YtnpghhpcloljeabGreatDoor.nq
