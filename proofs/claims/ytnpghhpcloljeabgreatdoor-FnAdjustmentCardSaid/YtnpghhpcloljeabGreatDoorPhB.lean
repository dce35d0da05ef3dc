/-
  IsBalanced, by the model.
  Conditions: those that each theorem names.
-/
import Derived.Test.YtnpghhpcloljeabGreatDoorPgU
import Derived.Test.YtnpghhpcloljeabGreatDoorReadsq
namespace Go.Proofs.YtnpghhpcloljeabGreatDoor.phb
open Go.RowKit
open reads base ty lg lgi win hs nt nq rowi sn mt ml dt pg inn
set_option linter.unusedVariables false
set_option linter.unusedSimpArgs false

/-- a leg's residual is added at its end and taken away at its beginning -/
def bal1 (x : Lg) (r : Int) (f : Nat → Int) : Nat → Int := upd (upd f x.to_.toNat (f x.to_.toNat + r)) x.frm.toNat ((upd f x.to_.toNat (f x.to_.toNat + r)) x.frm.toNat - r)
def spU (ts : List Lg) (ax : Int) (cs : List Int) (den : Int) (U : List Int) : Nat → Int := U.foldl (fun f u => bal1 (lgAt ts u) (rsV (lgAt ts u) ax cs den) f) (fun _ => 0)
theorem spU_step {ts : List Lg} {ax : Int} {cs : List Int} {den : Int} {U : List Int} {k : Nat} {q : Int} (h : U[k]? = some q) :
    spU ts ax cs den (U.take (k + 1)) = bal1 (lgAt ts q) (rsV (lgAt ts q) ax cs den) (spU ts ax cs den (U.take k)) := by
  unfold spU; rw [take_snoc h, List.foldl_append]; rfl
theorem upd_bd {f : Nat → Int} {K : Int} (h : ∀ s, -K ≤ f s ∧ f s ≤ K) {j : Nat} {v : Int} (hv : -K ≤ v ∧ v ≤ K) (s : Nat) : -K ≤ upd f j v s ∧ upd f j v s ≤ K := by
  unfold upd; split
  · exact hv
  · exact h s
theorem bal1_bd {x : Lg} {r K : Int} {f : Nat → Int} (h : ∀ s, -K ≤ f s ∧ f s ≤ K) (hr : -4500000000 ≤ r ∧ r ≤ 4500000000) (s : Nat) : -(K + 9000000000) ≤ bal1 x r f s ∧ bal1 x r f s ≤ K + 9000000000 := by
  have h1 : ∀ s, -(K + 4500000000) ≤ upd f x.to_.toNat (f x.to_.toNat + r) s ∧ upd f x.to_.toNat (f x.to_.toNat + r) s ≤ K + 4500000000 :=
    upd_bd (fun s => by have := h s; omega) (by have := h x.to_.toNat; omega)
  exact upd_bd (K := K + 9000000000) (fun s => by have := h1 s; omega) (by have := h1 x.frm.toNat; omega) s
theorem spU_bd {ts : List Lg} {ax : Int} {cs : List Int} {den : Int} {U : List Int} (h : ∀ u ∈ U, -4500000000 ≤ rsV (lgAt ts u) ax cs den ∧ rsV (lgAt ts u) ax cs den ≤ 4500000000) :
    ∀ k : Nat, k ≤ U.length → ∀ s, -(9000000000 * (k : Int)) ≤ spU ts ax cs den (U.take k) s ∧ spU ts ax cs den (U.take k) s ≤ 9000000000 * (k : Int)
  | 0, _, s => by simp [spU]
  | k + 1, hk, s => by
    obtain ⟨q, hq⟩ := at_lt rfl (show k < U.length by omega)
    rw [spU_step hq]
    have := bal1_bd (x := lgAt ts q) (spU_bd h k (by omega)) (h q (List.mem_of_getElem? hq)) s
    omega
/-- all is 0 -/
def azero (f : Nat → Int) : Bool := (List.range 8).all (fun s => f s == 0)
theorem az_no {f : Nat → Int} {k : Nat} (hk : k < 8) (h : f k ≠ 0) : azero f = false := by
  cases e : azero f
  · rfl
  · exact absurd (by have := List.all_eq_true.1 e k (List.mem_range.2 hk); simpa using this) h
theorem az_yes {f : Nat → Int} (h : ∀ k, k < 8 → f k = 0) : azero f = true := by
  unfold azero; rw [List.all_eq_true]; intro k hk; simpa using h k (List.mem_range.1 hk)
def cOk (cs : List Int) : Bool := decide (cs.length = 8) && allIn (-100000000) 100000000 cs
theorem cOk_bd {cs : List Int} (hl : cs.length = 8) (h : allIn (-100000000) 100000000 cs = true) : CBd cs := ⟨hl, fun c hc => by
  have := btw_yes (List.all_eq_true.1 h c hc); omega⟩
/-- IsBalanced's answer -/
def ansBl (ts : List Lg) (ax : Int) (cs : List Int) (den : Int) : Value := if axOk ts ax && (cOk cs && btw 1 den 100000) then .tuple #[.bool (decide (cat cs 0 = 0) && azero (spU ts ax cs den (plIds ts))), .bool true] else .tuple #[.bool false, .bool false]
theorem In_IO {w : World} {B n : Nat} {A : Option Addr} {xs : List Int} (h : InAt w B A n xs) : IO w B A n xs := ⟨h.1, fun k x hx => by
  obtain ⟨g, e, hg, hc⟩ := h.2 k x hx
  exact ⟨g, 0, e, hg, by rw [Nat.zero_add]; exact hc⟩⟩
theorem IO_far {w : World} {n R : Nat} {A : Option Addr} {xs : List Int} (h : IO w w.heap.size A n xs) (hne : ∀ g o, A = some ⟨g, o, none⟩ → ¬ g = R) (i : Nat) (v : Value) : IO (w.setCell ⟨R, i, none⟩ v) (w.setCell ⟨R, i, none⟩ v).heap.size A n xs := by
  refine ⟨h.1, fun q x hx => ?_⟩
  obtain ⟨g, o, e, hg9, hc⟩ := h.2 q x hx
  refine ⟨g, o, e, by simpa [World.setCell] using hg9, ?_⟩
  refine (World.cell?_setCell_other w _ _ _ (fun z => ?_)).trans hc
  injection z with z1 _
  exact hne g o e z1.symm
theorem IO_drew {w : World} {n : Nat} {A : Option Addr} {xs : List Int} (h : IO w w.heap.size A n xs) : IO w.drew w.drew.heap.size A n xs := h.step (Below.refl _ _).drew
theorem own_ne {w : World} {base n c R : Nat} {A : Option Addr} {e : TypeId} {xs : List Value} (h : w.ownsRow base e 1 (.slice A n c) n xs) (hR : R < base) : ∀ g o, A = some ⟨g, o, none⟩ → ¬ g = R := fun g o ea z => by
  rcases h.2 with ⟨z1, -⟩ | ⟨g1, c1, u1, z1, z2, -⟩
  · injection z1 with z1 _ _; rw [ea] at z1; cases z1
  · injection z1 with z1 _ _; rw [ea] at z1; injection z1 with z1; injection z1 with z1 _; omega
set_option maxHeartbeats 16000000 in
set_option maxRecDepth 100000 in
theorem balanced_model (A : Option Addr) (n cap : Nat) (ts : List Lg) (ax : Int) (A2 : Option Addr) (n2 c2 : Nat) (cs : List Int) (den : Int) (w : World) (hn : n ≤ 2000000) (hn2 : n2 ≤ 2000000) (hts : Hid (LgAt w w.heap.size A n ts)) (hcs : Hid (InAt w w.heap.size A2 n2 cs)) :
    Calls Tryz.prog 22 #[.slice A n cap, .int .i64 ax, .slice A2 n2 c2, .int .i64 den] w (APost (ansBl ts ax cs den) w) := by
  have HL := Lib.hid hts.out.1
  have HCL := Lib.hid hcs.out.1
  obtain ⟨t, HT⟩ : ∃ t, Hid (axOk ts ax = t) := ⟨_, Lib.hid rfl⟩
  cases t
  · have HF := Lib.hid (show ansBl ts ax cs den = .tuple #[.bool false, .bool false] by unfold ansBl; rw [HT.out]; rfl)
    go_enter Tryz.func22, Tryz.ntmps22
    go_wp2_with fail
    refine (axis_is A n cap ts ax false _ hn hts HT).mono ?_
    rintro e w1 ⟨rfl, b1⟩
    have HB := Lib.hid b1
    clear b1
    go_wp2_with fail
    go_ret2
    exact ⟨by rw [HF.out]; rfl, HB.out⟩
  have HGA := Lib.hid (show goodLg ts = true ∧ btw 0 ax 2 = true by have := HT.out; unfold axOk at this; rwa [Bool.and_eq_true] at this)
  have HG := Lib.hid HGA.out.1
  have hax := btw_yes HGA.out.2
  by_cases h8 : n2 = 8
  · subst h8
    obtain ⟨p, HP⟩ : ∃ t, Hid (btw 1 den 100000 = t) := ⟨_, Lib.hid rfl⟩
    cases p
    · have HF := Lib.hid (show ansBl ts ax cs den = .tuple #[.bool false, .bool false] by unfold ansBl; rw [HT.out, HP.out, Bool.and_false, Bool.and_false]; rfl)
      go_enter Tryz.func22, Tryz.ntmps22
      go_wp2_with fail
      refine (axis_is A n cap ts ax true _ hn hts HT).mono ?_
      rintro e w1 ⟨rfl, b1⟩
      have HB := Lib.hid b1
      clear b1
      go_wp2_with fail
      refine (in_is den 1 100000 false HP _).mono ?_
      rintro e w9 ⟨rfl, rfl⟩
      go_wp2_with fail
      go_ret2
      exact ⟨by rw [HF.out]; rfl, HB.out⟩
    have hden := btw_yes HP.out
    have hd : -1000000 ≤ den ∧ den ≤ 1000000 := by omega
    go_enter Tryz.func22, Tryz.ntmps22
    go_wp2_with fail
    refine (axis_is A n cap ts ax true _ hn hts HT).mono ?_
    rintro e w1 ⟨rfl, b1⟩
    have HB := Lib.hid b1
    have HC1 := Lib.hid ((In_IO hcs.out).step b1)
    clear b1
    go_wp2_with fail
    refine (in_is den 1 100000 true HP _).mono ?_
    rintro e w9 ⟨rfl, rfl⟩
    go_wp2_with fail
    go_loop [10] (fun i => ∃ k : Nat, k ≤ 8 ∧ i = .int .i64 k ∧ Hid (allIn (-100000000) 100000000 (cs.take k) = true)) (fun i => 8 - (intOf i).toNat)
    case atStart => exact ⟨0, Nat.zero_le _, rfl, Lib.hid rfl⟩
    case round =>
      obtain ⟨k, hk, rfl, HI⟩ := hrel
      have hk0 : 0 ≤ (k : Int) := by omega
      by_cases h1 : k < 8
      · have hki : (k : Int) < 8 := by omega
        have hkd : decide (k < 8) = true := by simpa using h1
        obtain ⟨x, hxk⟩ := at_lt HCL.out h1
        obtain ⟨g, o, rfl, hg, e0⟩ := HC1.out.2 k x hxk
        obtain ⟨tt, HTT⟩ : ∃ t, Hid (btw (-100000000) x 100000000 = t) := ⟨_, Lib.hid rfl⟩
        have HK := Lib.hid hxk
        clear hxk
        go_wp2_with fail
        refine (in_is x (-100000000) 100000000 tt HTT _).mono ?_
        rintro e w9 ⟨rfl, rfl⟩
        cases tt
        · have HF := Lib.hid (show ansBl ts ax cs den = .tuple #[.bool false, .bool false] by
            have h9 : allIn (-100000000) 100000000 cs = false := by
              cases e : allIn (-100000000) 100000000 cs
              · rfl
              · have := List.all_eq_true.1 e x (List.mem_of_getElem? HK.out)
                rw [HTT.out] at this; cases this
            unfold ansBl cOk; rw [h9, Bool.and_false, Bool.false_and, Bool.and_false]; rfl)
          go_wp2_with fail
          go_ret2
          exact ⟨by rw [HF.out]; rfl, HB.out⟩
        · have HN := Lib.hid (show allIn (-100000000) 100000000 (cs.take (k + 1)) = true by
            unfold allIn; rw [take_snoc HK.out, List.all_append]
            have := HI.out; unfold allIn at this
            rw [this]; simpa using HTT.out)
          go_wp2_with fail
          go_round
          case rel => exact ⟨k + 1, by omega, by go_num, HN⟩
          case measure => simp [intOf]; omega
      · have hkd : decide (k < 8) = false := by simpa using h1
        obtain rfl : k = 8 := by omega
        have HAL := Lib.hid (show allIn (-100000000) 100000000 cs = true by have := HI.out; rwa [List.take_of_length_le (by rw [HCL.out]; exact Nat.le_refl _)] at this)
        have HCB := Lib.hid (cOk_bd HCL.out HAL.out)
        obtain ⟨c0, HC0⟩ : ∃ q, Hid (cat cs 0 = q) := ⟨_, Lib.hid rfl⟩
        have HX0 := Lib.hid (show cs[0]? = some c0 by have := cat_at (cs := cs) (k := 0) (by rw [HCL.out]; decide); rw [this]; exact congrArg some HC0.out)
        obtain ⟨g, o, rfl, hg, e0⟩ := HC1.out.2 0 _ HX0.out
        rw [Nat.add_zero] at e0
        by_cases hc0 : c0 = 0
        · subst hc0
          obtain ⟨U, HU⟩ : ∃ q, Hid (plIds ts = q) := ⟨_, Lib.hid rfl⟩
          obtain ⟨nu, HNU⟩ : ∃ q, Hid (U.length = q) := ⟨_, Lib.hid rfl⟩
          have hn12 := len12 HL.out HG.out
          have hnu : nu ≤ 12 := by rw [← HNU.out, ← HU.out]; have := plIds_len' ts; rw [HL.out] at this; omega
          have HF := Lib.hid (show ansBl ts ax cs den = .tuple #[.bool (azero (spU ts ax cs den U)), .bool true] by unfold ansBl cOk; rw [HT.out, HP.out, HAL.out, HC0.out, HU.out, decide_eq_true HCL.out]; rfl)
          have HRB := Lib.hid (show ∀ u ∈ U, -4500000000 ≤ rsV (lgAt ts u) ax cs den ∧ rsV (lgAt ts u) ax cs den ≤ 4500000000 from fun u hu => by
            obtain ⟨j, rfl, x, hx, -⟩ := plIds_at (by rw [HU.out]; exact hu)
            rw [lgAt_is hx]
            exact rsV_bd (goodLg_at HG.out hx) HCB.out hd)
          obtain ⟨i0, hi, hz0, hz1, hz2⟩ := info_parts infoI
          have hmk : ∀ W : World, (Instr.makeSlice 27 (.int .i64 8) (.int .i64 8)).run Tryz.prog W = .ok (.slice (some ⟨W.heap.size, 0, none⟩) 8 8) (W.alloc (.cells (cs1 8 (fun _ => 0)) 3)) := fun W => by
            have h := run_make_rowN (P := Tryz.prog) 27 3 i0 _ Tryz.underlying27 hi hz0 .i64 .i64 8 8 (Nat.le_refl _) (by rw [hz2]; omega) (by omega) W
            rw [hz1] at h
            rw [← cs1_zero]
            exact h
          obtain ⟨R, HRE⟩ : ∃ q, Hid (w1.heap.size = q) := ⟨_, Lib.hid rfl⟩
          have HR0 := Lib.hid (show RwB (w1.alloc (.cells (cs1 8 (fun _ => 0)) 3)) R 8 (fun _ => 0) by rw [← HRE.out]; exact Blk.new _ _ _)
          have HB0 := Lib.hid (HB.out.alloc HB.out.size (.cells (cs1 8 (fun _ => 0)) 3))
          have hwR : w.heap.size ≤ R := by rw [← HRE.out]; exact HB.out.size
          go_wp2_with fail
          refine (legs9_any A n cap ts _ HG (Lib.hid (hts.out.step HB0.out))).mono ?_
          rintro e w3 ⟨vU, rfl, hOU, b3⟩
          rw [HU.out, HNU.out] at hOU
          obtain ⟨AU, cU, rfl⟩ := row_slice hOU
          have HUG := Lib.hid (own_ne hOU HR0.out.lt)
          have HUO := Lib.hid (IO.of_own hOU)
          have HR3 := Lib.hid (HR0.out.below b3 HR0.out.lt)
          have HB3 := Lib.hid (HB0.out.trans (b3.mono HB0.out.size))
          clear hOU b3 HR0 HB0 e0
          go_wp2_with fail
          simp only [HRE.out]
          go_loopw [13] (fun i wr => ∃ k : Nat, k ≤ nu ∧ i = .int .i64 (k : Nat) ∧ RwB wr R 8 (spU ts ax cs den (U.take k)) ∧ IO wr wr.heap.size AU nu U ∧ Below w.heap.size w wr) (fun i _ => nu - (intOf i).toNat)
          case atStart => exact ⟨0, Nat.zero_le _, rfl, HR3.out, HUO.out, HB3.out⟩
          case round =>
            obtain ⟨k, hk, rfl, hR, hS, hB⟩ := hrel
            have HRQ := Lib.hid hR
            have HSQ := Lib.hid hS
            have HBQ := Lib.hid hB
            clear hR hS hB
            have hk0 : (0 : Int) ≤ (k : Int) := by omega
            by_cases hlt : k < nu
            · have hki : (k : Int) < (nu : Int) := by omega
              have hkd : decide (k < nu) = true := by simpa using hlt
              obtain ⟨q, hq⟩ := at_lt HNU.out hlt
              obtain ⟨j, rfl, ⟨fr, tt, tp, cm, sl⟩, hx, -⟩ := plIds_at (by rw [HU.out]; exact List.mem_of_getElem? hq)
              have hjn : j < n := by have := lt_at hx; rw [HL.out] at this; exact this
              have hji : (j : Int) < (n : Int) := by omega
              have hj0 : (0 : Int) ≤ (j : Int) := by omega
              have HOX := Lib.hid (goodLg_at HG.out hx)
              obtain ⟨⟨f0, f7⟩, ⟨t0, t7⟩, -⟩ := okLg_lim HOX.out
              simp only [] at f0 f7 t0 t7
              obtain ⟨f, rfl⟩ : ∃ f : Nat, fr = f := ⟨fr.toNat, by omega⟩
              obtain ⟨t, rfl⟩ : ∃ t : Nat, tt = t := ⟨tt.toNat, by omega⟩
              have hf8 : f < 8 := by omega
              have ht8 : t < 8 := by omega
              have hfi : (f : Int) < 8 := by omega
              have hti : (t : Int) < 8 := by omega
              have hf0 : (0 : Int) ≤ (f : Int) := by omega
              have ht0 : (0 : Int) ≤ (t : Int) := by omega
              have hbr := HRB.out (j : Int) (List.mem_of_getElem? hq)
              have hbF := spU_bd HRB.out k (by rw [HNU.out]; exact hk)
              have HSTP := Lib.hid (spU_step (ts := ts) (ax := ax) (cs := cs) (den := den) hq)
              rw [lgAt_is hx] at hbr
              obtain ⟨F, HFF⟩ : ∃ q, Hid (spU ts ax cs den (U.take k) = q) := ⟨_, Lib.hid rfl⟩
              obtain ⟨r, HRV⟩ : ∃ q, Hid (rsV ⟨(f : Int), (t : Int), tp, cm, sl⟩ ax cs den = q) := ⟨_, Lib.hid rfl⟩
              rw [HRV.out] at hbr
              rw [HFF.out] at hbF HRQ
              obtain ⟨G, HGG⟩ : ∃ q, Hid (upd F t (F t + r) = q) := ⟨_, Lib.hid rfl⟩
              have HST := Lib.hid (show spU ts ax cs den (U.take (k + 1)) = upd G f (G f - r) by
                rw [HSTP.out, HFF.out, lgAt_is hx, HRV.out, ← HGG.out]; rfl)
              have hbG := upd_bd (K := 9000000000 * (k : Int) + 4500000000) (f := F) (fun s => by have := hbF s; omega) (j := t) (v := F t + r) (by have := hbF t; omega) f
              rw [HGG.out] at hbG
              have bFt := hbF t
              have x1 : IntKind.i64.wrap (F t + r) = F t + r := IntWalk.i64_in _ (by omega)
              have x2 : IntKind.i64.wrap (G f - r) = G f - r := IntWalk.i64_in _ (by omega)
              obtain ⟨gU, oU, rfl, hgU, eU⟩ := HSQ.out.2 k _ hq
              obtain ⟨gL, rfl, hgL, e0, e1, e2, e3, e4⟩ := (hts.out.below HBQ.out).2 j _ hx
              simp only [] at e0 e1 e2 e3 e4
              clear hq hx f0 f7 t0 t7 hbr hbF hbG bFt HSTP
              go_upto_region 16 with fail
              obtain ⟨W0, HW0⟩ : ∃ W, Hid (wr.alloc (.cells #[.int .i64 (f : Int), .int .i64 (t : Int), .int .i64 tp, .int .i64 cm, .int .i64 sl] 87) = W) := ⟨_, Lib.hid rfl⟩
              have HAL2 := Lib.hid ((Below.refl wr.heap.size wr).alloc (Nat.le_refl _) (.cells #[.int .i64 (f : Int), .int .i64 (t : Int), .int .i64 tp, .int .i64 cm, .int .i64 sl] 87))
              have HSW := Lib.hid (HSQ.out.step HAL2.out)
              have HRW := Lib.hid (HRQ.out.below HAL2.out HRQ.out.lt)
              have HBW := Lib.hid (HBQ.out.trans (HAL2.out.mono HBQ.out.size))
              have HK1 := Lib.hid (Blk.new wr 87 #[.int .i64 (f : Int), .int .i64 (t : Int), .int .i64 tp, .int .i64 cm, .int .i64 sl])
              rw [HW0.out] at HSW HRW HBW HK1 ⊢
              obtain ⟨X, HXX⟩ : ∃ X, Hid (wr.heap.size = X) := ⟨_, Lib.hid rfl⟩
              rw [HXX.out] at HK1
              try simp only [HXX.out]
              have hXR : ¬ X = R := fun z => by have := HRQ.out.lt; rw [HXX.out] at this; omega
              clear HW0 HXX e0 e1 e2 e3 e4 eU hgL HAL2 HSQ HRQ HBQ
              have y0 := HK1.out.cell 0
              have y1 := HK1.out.cell 1
              have y2 := HK1.out.cell 2
              have y3 := HK1.out.cell 3
              have y4 := HK1.out.cell 4
              have lX := HK1.out.lt
              simp at y0 y1 y2 y3 y4
              go_wp2_with fail
              refine (rest_any ⟨(f : Int), (t : Int), tp, cm, sl⟩ ax den r _ c2 cs _ HOX hax.1 hax.2 hd HCB (Lib.hid ((In_IO hcs.out).step HBW.out)) HRV).mono ?_
              rintro e w6 ⟨rfl, b6⟩
              have HR6 := Lib.hid (HRW.out.below b6 HRW.out.lt)
              have HK6 := Lib.hid (HK1.out.below b6 HK1.out.lt)
              have HS6 := Lib.hid (HSW.out.step b6)
              have HB6 := Lib.hid (HBW.out.trans (b6.mono HBW.out.size))
              clear b6 y0 y1 y2 y3 y4 lX HRW HK1 HSW HBW
              go_upto_region 17 with fail
              have y1 := HK6.out.cell 1
              have lX := HK6.out.lt
              simp at y1
              have d1 := HR6.out.at_ ht8
              have fz1 := HR6.out.fro t
              have lr1 := HR6.out.lt
              have HR7 := Lib.hid (((HR6.out.set ht8 (F t + r)).below (Below.refl _ _).drew (HR6.out.set ht8 (F t + r)).lt))
              have HK7 := Lib.hid (Blk.drew (HK6.out.far (p := ⟨R, t, none⟩) hXR (.int .i64 (F t + r))))
              have HS7 := Lib.hid (IO_drew (IO_far HS6.out HUG.out t (.int .i64 (F t + r))))
              have HB7 := Lib.hid ((HB6.out.setCell (p := ⟨R, t, none⟩) hwR (.int .i64 (F t + r))).drew)
              obtain ⟨W1, HW1⟩ : ∃ W, Hid ((w6.setCell ⟨R, t, none⟩ (.int .i64 (F t + r))).drew = W) := ⟨_, Lib.hid rfl⟩
              refine wp_region_still_tail 11 (by kernel_rfl) (by kernel_rfl) ?_
              simp only [List.take_succ_cons, List.take_zero, List.drop_succ_cons, List.drop_zero]
              repeat still_step
              refine wpStill_nil ?_
              change wpList _ _ _ _ _ w6.drew
              go_upto_region 18 with fail
              rw [HW1.out, HGG.out] at HR7
              rw [HW1.out] at HK7 HS7 HB7 ⊢
              clear HW1 y1 lX d1 fz1 lr1 HR6 HK6 HS6 HB6
              have y0 := HK7.out.cell 0
              have lX := HK7.out.lt
              simp at y0
              have d1 := HR7.out.at_ hf8
              have fz1 := HR7.out.fro f
              have lr1 := HR7.out.lt
              have HR8 := Lib.hid (((HR7.out.set hf8 (G f - r)).below (Below.refl _ _).drew (HR7.out.set hf8 (G f - r)).lt))
              have HS8 := Lib.hid (IO_drew (IO_far HS7.out HUG.out f (.int .i64 (G f - r))))
              have HB8 := Lib.hid ((HB7.out.setCell (p := ⟨R, f, none⟩) hwR (.int .i64 (G f - r))).drew)
              refine wp_region_still_tail 11 (by kernel_rfl) (by kernel_rfl) ?_
              simp only [List.take_succ_cons, List.take_zero, List.drop_succ_cons, List.drop_zero]
              repeat still_step
              refine wpStill_nil ?_
              change wpList _ _ _ _ _ W1.drew
              go_wp2_with fail
              go_roundw
              case rel => exact ⟨k + 1, by omega, by go_num, by rw [HST.out]; exact HR8.out, HS8.out, HB8.out⟩
              case measure => simp [intOf]; omega
            · have hkd : decide (k < nu) = false := by simpa using hlt
              obtain rfl : k = nu := by omega
              rw [List.take_of_length_le (by rw [HNU.out]; exact Nat.le_refl _)] at HRQ
              obtain ⟨F, HFF⟩ : ∃ q, Hid (spU ts ax cs den U = q) := ⟨_, Lib.hid rfl⟩
              rw [HFF.out] at HRQ HF
              clear HSQ
              go_wp2_with fail
              go_loop [16] (fun i => ∃ k : Nat, k ≤ 8 ∧ i = .int .i64 k ∧ Hid (∀ s, s < k → F s = 0)) (fun i => 8 - (intOf i).toNat)
              case atStart => exact ⟨0, Nat.zero_le _, rfl, Lib.hid (fun s h => absurd h (Nat.not_lt_zero _))⟩
              case round =>
                obtain ⟨k9, hk9, rfl, HI9⟩ := hrel
                have hk90 : 0 ≤ (k9 : Int) := by omega
                by_cases h19 : k9 < 8
                · have hki9 : (k9 : Int) < 8 := by omega
                  have hkd9 : decide (k9 < 8) = true := by simpa using h19
                  obtain ⟨v, HV⟩ : ∃ q, Hid (F k9 = q) := ⟨_, Lib.hid rfl⟩
                  have d9 := HRQ.out.at_ h19
                  rw [HV.out] at d9
                  by_cases hv : v = 0
                  · subst hv
                    have HN := Lib.hid (show ∀ s, s < k9 + 1 → F s = 0 from fun s hs => by
                      by_cases e : s = k9
                      · rw [e]; exact HV.out
                      · exact HI9.out s (by omega))
                    go_wp2_with fail
                    go_round
                    case rel => exact ⟨k9 + 1, by omega, by go_num, HN⟩
                    case measure => simp [intOf]; omega
                  · have hz1 : decide (v = 0) = false := decide_eq_false hv
                    have hz2 : (v == 0) = false := by simpa using hv
                    have HZ := Lib.hid (az_no h19 (show F k9 ≠ 0 by rw [HV.out]; exact hv))
                    go_wp2_with fail
                    go_ret2
                    exact ⟨by rw [HF.out, HZ.out]; rfl, HBQ.out⟩
                · have hkd9 : decide (k9 < 8) = false := by simpa using h19
                  obtain rfl : k9 = 8 := by omega
                  have HZ := Lib.hid (az_yes HI9.out)
                  go_wp2_with fail
                  go_ret2
                  exact ⟨by rw [HF.out, HZ.out]; rfl, HBQ.out⟩
        · have hz1 : decide (c0 = 0) = false := decide_eq_false hc0
          have hz2 : (c0 == 0) = false := by simpa using hc0
          have HF := Lib.hid (show ansBl ts ax cs den = .tuple #[.bool false, .bool true] by unfold ansBl cOk; rw [HT.out, HP.out, HAL.out, HC0.out, hz1, decide_eq_true HCL.out]; rfl)
          go_wp2_with fail
          go_ret2
          exact ⟨by rw [HF.out]; rfl, HB.out⟩
  · have HF := Lib.hid (show ansBl ts ax cs den = .tuple #[.bool false, .bool false] by unfold ansBl cOk; rw [HCL.out, decide_eq_false h8, Bool.false_and, Bool.false_and, Bool.and_false]; rfl)
    have z1 : ((n2 : Int) == 8) = false := by simp; omega
    have z2 : decide ((n2 : Int) = 8) = false := by simp; omega
    have z3 : decide (n2 = 8) = false := by simp; omega
    go_enter Tryz.func22, Tryz.ntmps22
    go_wp2_with fail
    refine (axis_is A n cap ts ax true _ hn hts HT).mono ?_
    rintro e w1 ⟨rfl, b1⟩
    have HB := Lib.hid b1
    clear b1
    go_wp2_with fail
    go_ret2
    exact ⟨by rw [HF.out]; rfl, HB.out⟩
end Go.Proofs.YtnpghhpcloljeabGreatDoor.phb
