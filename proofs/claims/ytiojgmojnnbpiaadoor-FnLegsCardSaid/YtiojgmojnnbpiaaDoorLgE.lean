/-
  The model of the legs: the shift of a leg, of a chain.
  Conditions: the legs lie in one block below the call's own.
-/
import Derived.Test.YtiojgmojnnbpiaaDoorLgD
import Derived.Deep.QuietTactic
import Derived.BigQuiet
import Derived.Deep.DeepCutAuto
import Derived.Deep.RegionWith
namespace Go.Proofs.YtiojgmojnnbpiaaDoor.lg
open Go.RowKit
open reads base ty inn
set_option linter.unusedVariables false
set_option linter.unusedSimpArgs false

def ansShift (x : Lg) : Value := if okLg x = true then .tuple #[.agg #[.int .i64 (shf x).east, .int .i64 (shf x).north, .int .i64 (shf x).up], .bool true] else .tuple #[.agg #[.int .i64 0, .int .i64 0, .int .i64 0], .bool false]
theorem shift_is (x : Lg) (s : Sf) (h : Hid (shf x = s)) (w : World) (hx : Hid (okLg x = true)) : Calls Tryd.prog 50 #[.agg #[.int .i64 x.frm, .int .i64 x.to_, .int .i64 x.tape, .int .i64 x.comp, .int .i64 x.slope]] w (APost (.agg #[.int .i64 s.east, .int .i64 s.north, .int .i64 s.up]) w) := by rw [← h.out]; exact shift_any x w hx
set_option maxHeartbeats 4000000 in
set_option maxRecDepth 100000 in
theorem shiftOf_model (x : Lg) (w : World) : Calls Tryd.prog 20 #[.agg #[.int .i64 x.frm, .int .i64 x.to_, .int .i64 x.tape, .int .i64 x.comp, .int .i64 x.slope]] w (APost (ansShift x) w) := by
  cases hx : okLg x
  · have HA := Lib.hid (show ansShift x = .tuple #[.agg #[.int .i64 0, .int .i64 0, .int .i64 0], .bool false] by unfold ansShift; rw [hx]; rfl)
    have HX := Lib.hid hx
    clear hx
    rw [HA.out]
    go_enter Tryd.func20, Tryd.ntmps20
    go_wp2_with fail
    refine (leg_is x false HX _).mono ?_
    rintro e w1 ⟨rfl, b1⟩
    obtain ⟨hc1, hf1⟩ := bcell b1
    have hz : w.heap.size + 2 ≤ w1.heap.size := by have := b1.size; simp at this; omega
    have hz0 : w.heap.size < w1.heap.size := by omega
    have hz1 : w.heap.size + 1 < w1.heap.size := by omega
    have HB := Lib.hid ((((Below.refl w.heap.size w).alloc (Nat.le_refl _) _).alloc (by simp) _).trans (b1.mono (by simp; omega)))
    clear b1
    go_wp2_with fail
    refine bodyPost_ret (v := .tuple #[.agg #[.int .i64 0, .int .i64 0, .int .i64 0], .bool false]) (by simp [results, Tryd.results20, go_sem, hc1]) rfl ⟨rfl, ?_⟩
    exact ((HB.out.setCell (by simp) _).setCell (by simp) _).setCell (by simp) _
  · obtain ⟨s, hs⟩ : ∃ s, shf x = s := ⟨_, rfl⟩
    have HA := Lib.hid (show ansShift x = .tuple #[.agg #[.int .i64 s.east, .int .i64 s.north, .int .i64 s.up], .bool true] by unfold ansShift; rw [hx, hs]; rfl)
    have HX := Lib.hid hx
    have HS := Lib.hid hs
    clear hx hs
    rw [HA.out]
    go_enter Tryd.func20, Tryd.ntmps20
    go_wp2_with fail
    refine (leg_is x true HX _).mono ?_
    rintro e w1 ⟨rfl, b1⟩
    obtain ⟨hc1, hf1⟩ := bcell b1
    have hz : w.heap.size + 2 ≤ w1.heap.size := by have := b1.size; simp at this; omega
    have hz0 : w.heap.size < w1.heap.size := by omega
    have hz1 : w.heap.size + 1 < w1.heap.size := by omega
    have HB := Lib.hid ((((Below.refl w.heap.size w).alloc (Nat.le_refl _) _).alloc (by simp) _).trans (b1.mono (by simp; omega)))
    clear b1
    go_wp2_with fail
    refine (shift_is x s HS _ HX).mono ?_
    rintro e w2 ⟨rfl, b2⟩
    obtain ⟨hc2, hf2⟩ := bcell b2
    have hz2 : w1.heap.size ≤ w2.heap.size := b2.size
    have HB2 := Lib.hid (HB.out.trans (b2.mono HB.out.size))
    clear b2
    go_wp2_with fail
    refine bodyPost_ret (v := .tuple #[.agg #[.int .i64 s.east, .int .i64 s.north, .int .i64 s.up], .bool true]) (by simp [results, Tryd.results20, go_sem, *]) rfl ⟨rfl, ?_⟩
    exact ((HB2.out.setCell (by simp) _).setCell (by simp) _).setCell (by simp) _

/-- a sum of shifts -/
def add3 (a b : Sf) : Sf := ⟨a.east + b.east, a.north + b.north, a.up + b.up⟩
set_option maxHeartbeats 4000000 in
set_option maxRecDepth 100000 in
theorem plus_any (a b : Sf) (m : Int) (w : World) (hm : 0 ≤ m) (hm2 : m ≤ 1000000) (a0 : -m ≤ a.east ∧ a.east ≤ m) (a1 : -m ≤ a.north ∧ a.north ≤ m) (a2 : -m ≤ a.up ∧ a.up ≤ m) (b0 : -500 ≤ b.east ∧ b.east ≤ 500) (b1 : -500 ≤ b.north ∧ b.north ≤ 500) (b2 : -500 ≤ b.up ∧ b.up ≤ 500) :
    Calls Tryd.prog 49 #[.agg #[.int .i64 a.east, .int .i64 a.north, .int .i64 a.up], .agg #[.int .i64 b.east, .int .i64 b.north, .int .i64 b.up], .int .i64 1] w (APost (.agg #[.int .i64 (add3 a b).east, .int .i64 (add3 a b).north, .int .i64 (add3 a b).up]) w) := by
  have HR := Lib.hid (show add3 a b = ⟨a.east + b.east, a.north + b.north, a.up + b.up⟩ from rfl)
  obtain ⟨a00, a01⟩ := a0
  obtain ⟨a10, a11⟩ := a1
  obtain ⟨a20, a21⟩ := a2
  obtain ⟨b00, b01⟩ := b0
  obtain ⟨b10, b11⟩ := b1
  obtain ⟨b20, b21⟩ := b2
  go_enter Tryd.func49, Tryd.ntmps49
  go_wp2_with fail
  refine bodyPost_ret (v := .agg #[.int .i64 (add3 a b).east, .int .i64 (add3 a b).north, .int .i64 (add3 a b).up]) (by simp [results, Tryd.results49, go_sem, HR.out]) rfl ⟨rfl, ?_⟩
  exact (((Below.refl _ _).alloc (Nat.le_refl _) _).alloc (by simp) _).alloc (by simp; omega) _
theorem plus_is (a b c : Sf) (h : Hid (add3 a b = c)) (m : Int) (w : World) (hm : 0 ≤ m) (hm2 : m ≤ 1000000) (a0 : -m ≤ a.east ∧ a.east ≤ m) (a1 : -m ≤ a.north ∧ a.north ≤ m) (a2 : -m ≤ a.up ∧ a.up ≤ m) (b0 : -500 ≤ b.east ∧ b.east ≤ 500) (b1 : -500 ≤ b.north ∧ b.north ≤ 500) (b2 : -500 ≤ b.up ∧ b.up ≤ 500) :
    Calls Tryd.prog 49 #[.agg #[.int .i64 a.east, .int .i64 a.north, .int .i64 a.up], .agg #[.int .i64 b.east, .int .i64 b.north, .int .i64 b.up], .int .i64 1] w (APost (.agg #[.int .i64 c.east, .int .i64 c.north, .int .i64 c.up]) w) := by rw [← h.out]; exact plus_any a b m w hm hm2 a0 a1 a2 b0 b1 b2
/-- each leg of a list begins where the one before it ends -/
def lkAt (ts : List Lg) (i : Nat) : Bool :=
  match i with
  | 0 => true
  | j + 1 => match ts[j]?, ts[j + 1]? with
    | some p, some t => p.to_ == t.frm
    | _, _ => true
def lkAll (ts : List Lg) : Nat → Bool
  | 0 => true
  | k + 1 => lkAll ts k && lkAt ts k
theorem lkAt_succ {ts : List Lg} {k j : Nat} {t p : Lg} (h0 : k = j + 1) (h : ts[k]? = some t) (hp : ts[j]? = some p) : lkAt ts k = (p.to_ == t.frm) := by
  subst h0
  unfold lkAt
  simp only [h, hp]
theorem lkAll_no (ts : List Lg) (i : Nat) (h : lkAt ts i = false) : ∀ n, i < n → lkAll ts n = false
  | 0, hi => by omega
  | n + 1, hi => by
    rw [lkAll]
    by_cases e : i = n
    · subst e; rw [h]; simp
    · rw [lkAll_no ts i h n (by omega)]; rfl
/-- the sum of the first k shifts -/
def ssum (ts : List Lg) : Nat → Sf
  | 0 => ⟨0, 0, 0⟩
  | k + 1 => match ts[k]? with
    | some t => add3 (ssum ts k) (shf t)
    | none => ssum ts k
theorem ssum_succ {ts : List Lg} {k : Nat} {t : Lg} (h : ts[k]? = some t) : ssum ts (k + 1) = add3 (ssum ts k) (shf t) := by
  show (match ts[k]? with | some t => _ | none => _) = _
  rw [h]
theorem ssum_bd {ts : List Lg} (h : ∀ t ∈ ts, okLg t = true) : ∀ k : Nat, (-(500 * (k : Int)) ≤ (ssum ts k).east ∧ (ssum ts k).east ≤ 500 * k) ∧ (-(500 * (k : Int)) ≤ (ssum ts k).north ∧ (ssum ts k).north ≤ 500 * k) ∧ (-(500 * (k : Int)) ≤ (ssum ts k).up ∧ (ssum ts k).up ≤ 500 * k)
  | 0 => by simp [ssum]
  | k + 1 => by
    have i := ssum_bd h k
    show (_ ≤ (match ts[k]? with | some t => add3 (ssum ts k) (shf t) | none => ssum ts k).east ∧ _) ∧ _
    cases q : ts[k]? with
    | none => rw [show ssum ts (k + 1) = ssum ts k by show (match ts[k]? with | some t => _ | none => _) = _; rw [q]]; simp only []; omega
    | some t =>
      have b := shf_bd (h t (List.mem_of_getElem? q))
      rw [ssum_succ q]
      simp only [add3]
      omega
def chOk (ts : List Lg) : Bool := goodLg ts && lkAll ts ts.length
def ansChain (ts : List Lg) : Value := if chOk ts = true then .tuple #[.agg #[.int .i64 (ssum ts ts.length).east, .int .i64 (ssum ts ts.length).north, .int .i64 (ssum ts ts.length).up], .bool true] else .tuple #[.agg #[.int .i64 0, .int .i64 0, .int .i64 0], .bool false]
/-- the answer and the sum in their boxes, and nothing old has turned -/
def CB2 (w : World) (s : Sf) (v : World) : Prop := Blk v w.heap.size 27 #[.int .i64 0, .int .i64 0, .int .i64 0] ∧ Blk v (w.heap.size + 1) 27 #[.int .i64 s.east, .int .i64 s.north, .int .i64 s.up] ∧ Below w.heap.size w v
theorem CB2.start (w : World) : CB2 w ⟨0, 0, 0⟩ ((w.alloc (.cells #[.int .i64 0, .int .i64 0, .int .i64 0] 27)).alloc (.cells #[.int .i64 0, .int .i64 0, .int .i64 0] 27)) := by
  refine ⟨(Blk.new w _ _).alloc _, ?_, ((Below.refl _ _).alloc (Nat.le_refl _) _).alloc (by simp) _⟩
  have h := Blk.new (w.alloc (.cells #[.int .i64 0, .int .i64 0, .int .i64 0] 27)) 27 #[.int .i64 0, .int .i64 0, .int .i64 0]
  simpa using h
theorem CB2.step {w v v' : World} {s : Sf} (h : CB2 w s v) (hb : Below v.heap.size v v') : CB2 w s v' := ⟨h.1.below hb h.1.lt, h.2.1.below hb h.2.1.lt, h.2.2.trans (hb.mono h.2.2.size)⟩
theorem CB2.drew {w v : World} {s : Sf} (h : CB2 w s v) : CB2 w s v.drew := ⟨h.1.drew, h.2.1.drew, h.2.2.drew⟩
theorem CB2.drewN {w v : World} {s : Sf} (h : CB2 w s v) (m : Nat) : CB2 w s (v.drewN m) := h.step (drewN_below v m)
theorem CB2.cs {w v : World} {s : Sf} (h : CB2 w s v) : v.cell? ⟨w.heap.size + 1, 0, none⟩ = some (.int .i64 s.east) ∧ v.cell? ⟨w.heap.size + 1, 1, none⟩ = some (.int .i64 s.north) ∧ v.cell? ⟨w.heap.size + 1, 2, none⟩ = some (.int .i64 s.up) := ⟨h.2.1.cell 0, h.2.1.cell 1, h.2.1.cell 2⟩
theorem CB2.zs {w v : World} {s : Sf} (h : CB2 w s v) : v.cell? ⟨w.heap.size, 0, none⟩ = some (.int .i64 0) ∧ v.cell? ⟨w.heap.size, 1, none⟩ = some (.int .i64 0) ∧ v.cell? ⟨w.heap.size, 2, none⟩ = some (.int .i64 0) := ⟨h.1.cell 0, h.1.cell 1, h.1.cell 2⟩
theorem CB2.fs {w v : World} {s : Sf} (h : CB2 w s v) : v.frozen? ⟨w.heap.size + 1, 0, none⟩ = false ∧ v.frozen? ⟨w.heap.size + 1, 1, none⟩ = false ∧ v.frozen? ⟨w.heap.size + 1, 2, none⟩ = false ∧ w.heap.size + 1 < v.heap.size := ⟨h.2.1.frozen 0, h.2.1.frozen 1, h.2.1.frozen 2, h.2.1.lt⟩
theorem CB2.gs {w v : World} {s : Sf} (h : CB2 w s v) : v.frozen? ⟨w.heap.size, 0, none⟩ = false ∧ v.frozen? ⟨w.heap.size, 1, none⟩ = false ∧ v.frozen? ⟨w.heap.size, 2, none⟩ = false ∧ w.heap.size < v.heap.size := ⟨h.1.frozen 0, h.1.frozen 1, h.1.frozen 2, h.1.lt⟩
theorem CB2.put {w v : World} {s : Sf} (h : CB2 w s v) (y : Sf) : CB2 w y (((v.setCell ⟨w.heap.size + 1, 0, none⟩ (.int .i64 y.east)).setCell ⟨w.heap.size + 1, 1, none⟩ (.int .i64 y.north)).setCell ⟨w.heap.size + 1, 2, none⟩ (.int .i64 y.up)) := by
  obtain ⟨h1, h2, h3⟩ := h
  refine ⟨((h1.far (by show _ ≠ _; simp) _).far (by show _ ≠ _; simp) _).far (by show _ ≠ _; simp) _, ?_, ((h3.setCell (by simp) _).setCell (by simp) _).setCell (by simp) _⟩
  have k := ((h2.set_ 0 (.int .i64 y.east)).set_ 1 (.int .i64 y.north)).set_ 2 (.int .i64 y.up)
  simpa using k
/-- the sum's box holds the old sum or the new one -/
def CX (w : World) (s nx : Sf) (v : World) : Prop := CB2 w s v
set_option maxHeartbeats 4000000 in
set_option maxRecDepth 100000 in
theorem chainShift_model (A : Option Addr) (n cap : Nat) (ts : List Lg) (w : World) (hn : n ≤ 2000000) (hts : Hid (LgAt w w.heap.size A n ts)) :
    Calls Tryd.prog 12 #[.slice A n cap] w (APost (ansChain ts) w) := by
  have hL : Hid (ts.length = n) := Lib.hid hts.out.1
  have HS0 := Lib.hid (CB2.start w)
  have HT := Lib.hid ((hts.out.alloc (.cells #[.int .i64 0, .int .i64 0, .int .i64 0] 27)).alloc (.cells #[.int .i64 0, .int .i64 0, .int .i64 0] 27))
  cases hg : goodLg ts
  · have HA := Lib.hid (show ansChain ts = .tuple #[.agg #[.int .i64 0, .int .i64 0, .int .i64 0], .bool false] by unfold ansChain chOk; rw [hg]; rfl)
    have HG := Lib.hid hg
    clear hg
    rw [HA.out]
    go_enter Tryd.func12, Tryd.ntmps12
    go_wp2_with fail
    refine (legs_is A n cap ts false _ hn HT HG).mono ?_
    rintro e w1 ⟨rfl, b1⟩
    have HS1 := Lib.hid (HS0.out.step b1)
    clear b1 HS0
    obtain ⟨s0, s1, s2⟩ := HS1.out.cs
    obtain ⟨z0, z1, z2⟩ := HS1.out.zs
    obtain ⟨f0, f1, f2, f3⟩ := HS1.out.gs
    go_wp2_with fail
    refine bodyPost_ret (v := .tuple #[.agg #[.int .i64 0, .int .i64 0, .int .i64 0], .bool false]) (by simp [results, Tryd.results12, go_sem, *]) rfl ⟨rfl, ?_⟩
    exact ((HS1.out.2.2.setCell (by simp) _).setCell (by simp) _).setCell (by simp) _
  · have HG := Lib.hid hg
    have hn12 : n ≤ 12 := by rw [← hL.out]; exact goodLg_len hg
    clear hg
    go_enter Tryd.func12, Tryd.ntmps12
    go_wp2_with fail
    refine (legs_is A n cap ts true _ hn HT HG).mono ?_
    rintro e w1 ⟨rfl, b1⟩
    have HS1 := Lib.hid (HS0.out.step b1)
    clear b1 HS0
    go_wp2_with fail
    go_loopw [5] (fun i wr => ∃ (k : Nat) (s : Sf), k ≤ n ∧ i = .int .i64 k ∧ Hid (ssum ts k = s) ∧ Hid (lkAll ts k = true) ∧ CB2 w s wr) (fun i _ => n - (intOf i).toNat)
    case atStart => exact ⟨0, ⟨0, 0, 0⟩, Nat.zero_le _, rfl, Lib.hid rfl, Lib.hid rfl, HS1.out⟩
    case round =>
      obtain ⟨k, s, hk, rfl, HV, HI, hF⟩ := hrel
      have HF := Lib.hid hF
      clear hF HS1
      by_cases hlt : k < n
      · obtain ⟨t, htk⟩ := at_lt hL.out hlt
        obtain ⟨g, rfl, hg, h0, h1, h2, h3, h4⟩ := (hts.out.below HF.out.2.2).2 k t htk
        have sb := ssum_bd (goodLg_all HG.out) k
        rw [HV.out] at sb
        have tb := shf_bd (goodLg_at HG.out htk)
        obtain ⟨sh, HSH⟩ : ∃ sh, Hid (shf t = sh) := ⟨_, Lib.hid rfl⟩
        rw [HSH.out] at tb
        obtain ⟨nx, hnx⟩ : ∃ nx, add3 s sh = nx := ⟨_, rfl⟩
        have HNX := Lib.hid hnx
        have HSN := Lib.hid (show ssum ts (k + 1) = nx by rw [ssum_succ htk, HV.out, HSH.out, hnx])
        have HTB := Lib.hid tb
        have HSB := Lib.hid sb
        have HOT := Lib.hid (goodLg_at HG.out htk)
        have HK := Lib.hid htk
        clear htk tb sb hnx
        have hki : (k : Int) < (n : Int) := by omega
        have hk0 : 0 ≤ (k : Int) := by omega
        have hkd : decide (k < n) = true := by simpa using hlt
        obtain ⟨lk, hlk⟩ : ∃ lk, lkAt ts k = lk := ⟨_, rfl⟩
        have HLK := Lib.hid hlk
        go_wp2_with fail
        go_cut [32] (fun v wx => v = .bool (!lk) ∧ CB2 w s wx ∧ LgAt wx wx.heap.size (some ⟨g, 0, none⟩) n ts)
        case first =>
          as_aux_lemma =>
            by_cases k0 : k = 0
            · subst k0
              obtain rfl : lk = true := by rw [← hlk]; rfl
              clear hlk HLK
              have hgt : decide ((0 : Int) < ((0 : Nat) : Int)) = false := by simp
              have hgt2 : decide ((0 : Int) < 0) = false := by simp
              go_quiet (fail)
              go_wp2_with fail
              go_meet
              case rel => exact ⟨rfl, HF.out.drewN _, ((hts.out.below HF.out.2.2).more HF.out.2.2.size).step (drewN_below _ _)⟩
            · obtain ⟨j, hkj⟩ : ∃ j, k = j + 1 := ⟨k - 1, by omega⟩
              obtain ⟨p, hpj⟩ : ∃ p, ts[j]? = some p := ⟨_, List.getElem?_eq_getElem (by rw [hL.out]; omega)⟩
              obtain ⟨g', hgg, -, p0, p1, -, -, -⟩ := (hts.out.below HF.out.2.2).2 j p hpj
              obtain rfl : g = g' := by injection hgg with hgg; injection hgg
              obtain rfl : lk = (p.to_ == t.frm) := by rw [← hlk]; exact lkAt_succ hkj HK.out hpj
              clear hpj hgg hlk HLK
              have hji : (j : Int) < (n : Int) := by omega
              have hj0 : 0 ≤ (j : Int) := by omega
              have hgt : decide ((0 : Int) < (k : Int)) = true := by simp; omega
              have hgt2 : decide (0 < k) = true := by simp; omega
              have hsub : IntKind.i64.wrap ((k : Int) - 1) = (j : Int) := by rw [IntWalk.i64_in _ (by omega)]; omega
              clear hkj k0
              go_quiet (fail)
              go_wp2_with fail
              go_meet
              case rel => exact ⟨by first | rfl | simp [bne], HF.out.drewN _, ((hts.out.below HF.out.2.2).more HF.out.2.2.size).step (drewN_below _ _)⟩
        case rest =>
          as_aux_lemma =>
            obtain ⟨rfl, hC, hTT⟩ := hcut
            have HC := Lib.hid hC
            have HTT := Lib.hid hTT
            clear hC hTT HF h0 h1 h2 h3 h4 hlk
            cases lk
            · have HA := Lib.hid (show ansChain ts = .tuple #[.agg #[.int .i64 0, .int .i64 0, .int .i64 0], .bool false] by unfold ansChain chOk; rw [lkAll_no ts k HLK.out _ (by rw [hL.out]; exact hlt)]; simp)
              obtain ⟨z0, z1, z2⟩ := HC.out.zs
              obtain ⟨f0, f1, f2, f3⟩ := HC.out.gs
              go_wp2_with fail
              refine bodyPost_ret (v := .tuple #[.agg #[.int .i64 0, .int .i64 0, .int .i64 0], .bool false]) (by simp [results, Tryd.results12, go_sem, *]) rfl ⟨by rw [HA.out], ?_⟩
              exact ((HC.out.2.2.setCell (by simp) _).setCell (by simp) _).setCell (by simp) _
            · have HN := Lib.hid (show lkAll ts (k + 1) = true by rw [lkAll, HI.out, HLK.out]; rfl)
              obtain ⟨g', hgg, hg', h0, h1, h2, h3, h4⟩ := HTT.out.2 k t HK.out
              obtain rfl : g = g' := by injection hgg with hgg; injection hgg
              clear hgg
              go_wp2_with fail
              have hsz := HC.out.fs.2.2.2
              obtain ⟨s0, s1, s2⟩ := HC.out.cs
              go_region_with (first | (go_at_call 50; refine (shift_is t sh HSH _ HOT).mono ?_; rintro e w2 ⟨rfl, b⟩; have HC2 := Lib.hid (HC.out.drew.step b); clear b s0 s1 s2; obtain ⟨s0, s1, s2⟩ := HC2.out.cs) | (go_at_call 49; refine (plus_is s sh nx HNX (500 * (k : Int)) _ (by omega) (by omega) HSB.out.1 HSB.out.2.1 HSB.out.2.2 HTB.out.1 HTB.out.2.1 HTB.out.2.2).mono ?_; rintro e w3 ⟨rfl, b⟩; have HC3 := Lib.hid (HC2.out.step b); clear b s0 s1 s2; obtain ⟨s0, s1, s2⟩ := HC3.out.cs; obtain ⟨f0, f1, f2, f3⟩ := HC3.out.fs))
              all_goals
                go_wp2_with fail
                go_roundw
                case rel => exact ⟨k + 1, nx, by omega, by go_num, HSN, HN, HC3.out.put nx⟩
                case measure => simp [intOf]; omega
      · have hkd : decide (k < n) = false := by simpa using hlt
        obtain rfl : k = n := by omega
        have HA := Lib.hid (show ansChain ts = .tuple #[.agg #[.int .i64 s.east, .int .i64 s.north, .int .i64 s.up], .bool true] by unfold ansChain chOk; rw [HG.out, hL.out, HI.out, HV.out]; rfl)
        clear hlt
        obtain ⟨s0, s1, s2⟩ := HF.out.cs
        obtain ⟨z0, z1, z2⟩ := HF.out.zs
        obtain ⟨f0, f1, f2, f3⟩ := HF.out.gs
        go_wp2_with fail
        refine bodyPost_ret (v := .tuple #[.agg #[.int .i64 s.east, .int .i64 s.north, .int .i64 s.up], .bool true]) (by simp [results, Tryd.results12, go_sem, *]) rfl ⟨by rw [HA.out], ?_⟩
        exact ((HF.out.2.2.setCell (by simp) _).setCell (by simp) _).setCell (by simp) _
end Go.Proofs.YtiojgmojnnbpiaaDoor.lg
