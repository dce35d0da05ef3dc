/-
  ExactLegs, by the model.
  ExactLegs, by the program.
  Conditions: those that each theorem names.
-/
import Derived.Test.YtgfopehceojahaaDoorPgU
namespace Go.Proofs.YtgfopehceojahaaDoor.phx
open Go.RowKit
open reads base ty lg lgi win hs nt nq rowi sn mt ml dt pg
set_option linter.unusedVariables false
set_option linter.unusedSimpArgs false

def rA (ts : List Lg) (a i : Int) : Int := rsV (lgAt ts i) a (xcN ts a) (TC ts)
def exB (ts : List Lg) (i : Int) : Bool := decide (rA ts 0 i = 0) && (decide (rA ts 1 i = 0) && decide (rA ts 2 i = 0))
def exN (ts : List Lg) (U : List Int) (k : Nat) : List Int := (U.take k).filter (exB ts)
/-- ExactLegs's answer -/
def exIds (ts : List Lg) : List Int := if goodLg ts then (plIds ts).filter (exB ts) else []
theorem exN_no {ts : List Lg} {U : List Int} {k : Nat} {q : Int} (h : U[k]? = some q) (hb : exB ts q = false) : exN ts U (k + 1) = exN ts U k := by
  unfold exN; rw [take_snoc h, List.filter_append]; simp [hb]
theorem exN_yes {ts : List Lg} {U : List Int} {k : Nat} {q : Int} (h : U[k]? = some q) (hb : exB ts q = true) : exN ts U (k + 1) = exN ts U k ++ [q] := by
  unfold exN; rw [take_snoc h, List.filter_append]; simp [hb]
theorem exIds_len {ts : List Lg} (h : ts.length ≤ 2000000) : (exIds ts).length ≤ ts.length := by
  unfold exIds
  split
  · exact Nat.le_trans (List.length_filter_le _ _) (plIds_len' ts)
  · simp
set_option maxHeartbeats 16000000 in
set_option maxRecDepth 100000 in
theorem exact_model (A : Option Addr) (n cap : Nat) (ts : List Lg) (w : World) (hn : n ≤ 2000000) (hts : Hid (LgAt w w.heap.size A n ts)) :
    Calls Tryd.prog 29 #[.slice A n cap] w (LPost (exIds ts) (goodLg ts) w) := by
  obtain ⟨i0, hi, hz0, hz1, hz2⟩ := info_parts infoI
  have HL := Lib.hid hts.out.1
  have HR1 := Lib.hid (show (w.alloc (.cells #[] 3)).ownsRow w.heap.size 3 1 (.slice (some ⟨w.heap.size, 0, none⟩) 0 0) 0 [] from World.ownsRow_made w #[] 0 (Nat.le_refl _) (by decide) (by simp))
  have HB1 := Lib.hid ((Below.refl w.heap.size w).alloc (Nat.le_refl _) (.cells #[] 3))
  have HA1 := Lib.hid (hts.out.alloc (.cells #[] 3))
  obtain ⟨t, HT⟩ : ∃ t, Hid (goodLg ts = t) := ⟨_, Lib.hid rfl⟩
  rw [HT.out]
  cases t
  · have HF := Lib.hid (show exIds ts = [] by unfold exIds; rw [HT.out]; rfl)
    rw [HF.out]
    go_enter Tryd.func29, Tryd.ntmps29
    go_wp2_with fail
    refine (legs_is A n cap ts false _ hn HA1 HT).mono ?_
    rintro e w2 ⟨rfl, b2⟩
    have HR2 := Lib.hid (row_below HR1.out b2)
    have HB2 := Lib.hid (HB1.out.trans (b2.mono HB1.out.size))
    clear b2
    go_wp2_with fail
    go_ret2
    exact ⟨_, rfl, HR2.out, HB2.out⟩
  have HG := Lib.hid HT.out
  have btr : -1000000 ≤ TC ts ∧ TC ts ≤ 1000000 := by have := TC_le HG.out; have := TC_pos HG.out; omega
  obtain ⟨U, HU⟩ : ∃ q, Hid (plIds ts = q) := ⟨_, Lib.hid rfl⟩
  obtain ⟨nu, HNU⟩ : ∃ q, Hid (U.length = q) := ⟨_, Lib.hid rfl⟩
  have hn12 := len12 HL.out HG.out
  have hnu : nu ≤ 12 := by rw [← HNU.out, ← HU.out]; have := plIds_len' ts; rw [HL.out] at this; omega
  have HF := Lib.hid (show exIds ts = exN ts U nu by unfold exIds exN; rw [HT.out, if_pos rfl, HU.out, List.take_of_length_le (by rw [HNU.out]; exact Nat.le_refl _)])
  rw [HF.out]
  obtain ⟨tr, HTR⟩ : ∃ q, Hid (TC ts = q) := ⟨_, Lib.hid rfl⟩
  rw [HTR.out] at btr
  obtain ⟨S1, HS1⟩ : ∃ q, Hid (w.heap.size + 1 = q) := ⟨_, Lib.hid rfl⟩
  go_enter Tryd.func29, Tryd.ntmps29
  go_wp2_with fail
  refine (legs_is A n cap ts true _ hn HA1 HT).mono ?_
  rintro e w2 ⟨rfl, b2⟩
  have HO2 := Lib.hid (row_below HR1.out b2)
  have HB2 := Lib.hid (HB1.out.trans (b2.mono HB1.out.size))
  have s2 : S1 ≤ w2.heap.size := by have := b2.size; have e := HS1.out; simp at this; omega
  clear b2 HR1 HB1 HA1
  go_wp2_with fail
  refine (legs9_any A n cap ts _ HG (Lib.hid (hts.out.step HB2.out))).mono ?_
  rintro e w3 ⟨vU, rfl, hOU, b3⟩
  rw [HU.out, HNU.out] at hOU
  obtain ⟨AU, cU, rfl⟩ := row_slice hOU
  have HU3 := Lib.hid (own_mono hOU s2)
  have HO3 := Lib.hid (row_below HO2.out b3)
  have HB3 := Lib.hid (HB2.out.trans (b3.mono HB2.out.size))
  have s3 : S1 ≤ w3.heap.size := Nat.le_trans s2 b3.size
  clear b3 hOU HO2 HB2
  go_wp2_with fail
  refine (trees_any A n cap ts _ HG (Lib.hid (hts.out.step HB3.out))).mono ?_
  rintro e w4 ⟨rfl, b4⟩
  rw [HTR.out]
  have HU4 := Lib.hid (row_below HU3.out b4)
  have HO4 := Lib.hid (row_below HO3.out b4)
  have HB4 := Lib.hid (HB3.out.trans (b4.mono HB3.out.size))
  have s4 : S1 ≤ w4.heap.size := Nat.le_trans s3 b4.size
  clear b4 HU3 HO3 HB3
  go_wp2_with fail
  refine (adjust_any A n cap ts 0 _ (by decide) (by decide) HG (Lib.hid (hts.out.step HB4.out))).mono ?_
  rintro e w5 ⟨v7, rfl, hO7, b5⟩
  rw [xcN_len] at hO7
  obtain ⟨X0, c0, rfl⟩ := row_slice hO7
  have HX05 := Lib.hid (own_mono hO7 s4)
  have HU5 := Lib.hid (row_below HU4.out b5)
  have HO5 := Lib.hid (row_below HO4.out b5)
  have HB5 := Lib.hid (HB4.out.trans (b5.mono HB4.out.size))
  have s5 : S1 ≤ w5.heap.size := Nat.le_trans s4 b5.size
  clear b5 hO7 HU4 HO4 HB4
  go_wp2_with fail
  refine (adjust_any A n cap ts 1 _ (by decide) (by decide) HG (Lib.hid (hts.out.step HB5.out))).mono ?_
  rintro e w6 ⟨v7, rfl, hO7, b6⟩
  rw [xcN_len] at hO7
  obtain ⟨X1, c1, rfl⟩ := row_slice hO7
  have HX16 := Lib.hid (own_mono hO7 s5)
  have HX06 := Lib.hid (row_below HX05.out b6)
  have HU6 := Lib.hid (row_below HU5.out b6)
  have HO6 := Lib.hid (row_below HO5.out b6)
  have HB6 := Lib.hid (HB5.out.trans (b6.mono HB5.out.size))
  have s6 : S1 ≤ w6.heap.size := Nat.le_trans s5 b6.size
  clear b6 hO7 HU5 HO5 HB5 HX05
  go_wp2_with fail
  refine (adjust_any A n cap ts 2 _ (by decide) (by decide) HG (Lib.hid (hts.out.step HB6.out))).mono ?_
  rintro e w7 ⟨v7, rfl, hO7, b7⟩
  rw [xcN_len] at hO7
  obtain ⟨X2, c2, rfl⟩ := row_slice hO7
  have HX27 := Lib.hid (own_mono hO7 s6)
  have HX17 := Lib.hid (row_below HX16.out b7)
  have HX07 := Lib.hid (row_below HX06.out b7)
  have HU7 := Lib.hid (row_below HU6.out b7)
  have HO7 := Lib.hid (row_below HO6.out b7)
  have HB7 := Lib.hid (HB6.out.trans (b7.mono HB6.out.size))
  clear b7 hO7 HU6 HO6 HB6 HX06 HX16 s2 s3 s4 s5 s6
  go_wp2_with fail
  go_loopw [4, 10] (fun v i wr => ∃ (k m c gO : Nat), k ≤ nu ∧ i = .int .i64 (k : Nat) ∧ m ≤ k ∧ v = .slice (some ⟨gO, 0, none⟩) m c ∧ (gO = w.heap.size ∨ w7.heap.size ≤ gO) ∧ Hid ((exN ts U k).length = m) ∧ wr.ownsRow w.heap.size 3 1 (.slice (some ⟨gO, 0, none⟩) m c) m (ints.intsV (exN ts U k)) ∧ wr.ownsRow S1 3 1 (.slice AU nu cU) nu (ints.intsV U) ∧ wr.ownsRow S1 3 1 (.slice X0 8 c0) 8 (ints.intsV (xcN ts 0)) ∧ wr.ownsRow S1 3 1 (.slice X1 8 c1) 8 (ints.intsV (xcN ts 1)) ∧ wr.ownsRow S1 3 1 (.slice X2 8 c2) 8 (ints.intsV (xcN ts 2)) ∧ Below w.heap.size w wr ∧ w7.heap.size ≤ wr.heap.size) (fun _ i _ => nu - (intOf i).toNat)
  case atStart => exact ⟨0, 0, 0, _, Nat.zero_le _, rfl, Nat.le_refl _, rfl, Or.inl rfl, Lib.hid rfl, HO7.out, HU7.out, HX07.out, HX17.out, HX27.out, HB7.out, Nat.le_refl _⟩
  case round =>
    obtain ⟨k, m, c, gO, hk, rfl, hmk, rfl, hgO, HM, hO, hU, hX0, hX1, hX2, hB, hZ⟩ := hrel
    have HGO := Lib.hid hgO
    have HOa := Lib.hid hO
    have HUa := Lib.hid hU
    have HX0a := Lib.hid hX0
    have HX1a := Lib.hid hX1
    have HX2a := Lib.hid hX2
    have HBa := Lib.hid hB
    have HZa := Lib.hid hZ
    have HNE := Lib.hid (show ((Value.slice AU nu cU).ownBlock = some gO → False) ∧ ((Value.slice X0 8 c0).ownBlock = some gO → False) ∧ ((Value.slice X1 8 c1).ownBlock = some gO → False) ∧ ((Value.slice X2 8 c2).ownBlock = some gO → False) from by
      refine ⟨fun e => ?_, fun e => ?_, fun e => ?_, fun e => ?_⟩
      · have := HU7.out.lt gO e; have := HS1.out; omega
      · have := HX07.out.lt gO e; have := HS1.out; omega
      · have := HX17.out.lt gO e; have := HS1.out; omega
      · have := HX27.out.lt gO e; have := HS1.out; omega)
    clear hgO hO hU hX0 hX1 hX2 hB hZ
    have hk0 : (0 : Int) ≤ (k : Int) := by omega
    by_cases hlt : k < nu
    · have hki : (k : Int) < (nu : Int) := by omega
      have hkd : decide (k < nu) = true := by simpa using hlt
      obtain ⟨q, hq⟩ := at_lt HNU.out hlt
      obtain ⟨j, rfl, ⟨xf, xt, xp, xc, xs⟩, hx, -⟩ := plIds_at (by rw [HU.out]; exact List.mem_of_getElem? hq)
      have hjn : j < n := by have := lt_at hx; rw [HL.out] at this; exact this
      have hji : (j : Int) < (n : Int) := by omega
      have hj0 : (0 : Int) ≤ (j : Int) := by omega
      have HOX := Lib.hid (goodLg_at HG.out hx)
      obtain ⟨r0, HR0⟩ : ∃ q, Hid (rsV ⟨xf, xt, xp, xc, xs⟩ 0 (xcN ts 0) tr = q) := ⟨_, Lib.hid rfl⟩
      obtain ⟨r1, HR1⟩ : ∃ q, Hid (rsV ⟨xf, xt, xp, xc, xs⟩ 1 (xcN ts 1) tr = q) := ⟨_, Lib.hid rfl⟩
      obtain ⟨r2, HR2⟩ : ∃ q, Hid (rsV ⟨xf, xt, xp, xc, xs⟩ 2 (xcN ts 2) tr = q) := ⟨_, Lib.hid rfl⟩
      have HE := Lib.hid (show exB ts (j : Int) = (decide (r0 = 0) && (decide (r1 = 0) && decide (r2 = 0))) by
        unfold exB rA; rw [lgAt_is hx, HTR.out, HR0.out, HR1.out, HR2.out])
      obtain ⟨gU, oU, eA, -, eU⟩ := (IO.of_own HUa.out).2 k _ hq
      subst eA
      obtain ⟨gL, rfl, hgL, e0, e1, e2, e3, e4⟩ := (hts.out.below HBa.out).2 j _ hx
      simp only [] at e0 e1 e2 e3 e4
      clear hx
      go_upto_region 10 with fail
      have HAL2 := Lib.hid ((Below.refl wr.heap.size wr).alloc (Nat.le_refl _) (.cells #[.int .i64 xf, .int .i64 xt, .int .i64 xp, .int .i64 xc, .int .i64 xs] 52))
      have HKb := Lib.hid (Blk.new wr 52 #[.int .i64 xf, .int .i64 xt, .int .i64 xp, .int .i64 xc, .int .i64 xs])
      have HOb := Lib.hid (row_below HOa.out HAL2.out)
      have HUb := Lib.hid (row_below HUa.out HAL2.out)
      have HX0b := Lib.hid (row_below HX0a.out HAL2.out)
      have HX1b := Lib.hid (row_below HX1a.out HAL2.out)
      have HX2b := Lib.hid (row_below HX2a.out HAL2.out)
      have HBb := Lib.hid (HBa.out.trans (HAL2.out.mono HBa.out.size))
      have HZb := Lib.hid (Nat.le_trans HZa.out HAL2.out.size)
      clear HOa HUa HX0a HX1a HX2a HBa HZa
      obtain ⟨W0, HW0⟩ : ∃ W, Hid (wr.alloc (.cells #[.int .i64 xf, .int .i64 xt, .int .i64 xp, .int .i64 xc, .int .i64 xs] 52) = W) := ⟨_, Lib.hid rfl⟩
      obtain ⟨X, HXX⟩ : ∃ X, Hid (wr.heap.size = X) := ⟨_, Lib.hid rfl⟩
      rw [HXX.out] at HKb
      rw [HW0.out] at HOb HUb HX0b HX1b HX2b HBb HZb HKb ⊢
      try simp only [HXX.out]
      clear HW0 HXX e0 e1 e2 e3 e4 eU hgL HAL2
      have y0 := HKb.out.cell 0
      have y1 := HKb.out.cell 1
      have y2 := HKb.out.cell 2
      have y3 := HKb.out.cell 3
      have y4 := HKb.out.cell 4
      have lX := HKb.out.lt
      simp at y0 y1 y2 y3 y4
      go_wp2_with fail
      refine (rest_any ⟨xf, xt, xp, xc, xs⟩ 0 tr r0 _ c0 (xcN ts 0) _ HOX (by decide) (by decide) btr (Lib.hid (xcN_bd HG.out 0)) (Lib.hid (IO.of_own HX0b.out)) HR0).mono ?_
      rintro e w6 ⟨rfl, b6⟩
      have HO6 := Lib.hid (row_below HOb.out b6)
      have HU6 := Lib.hid (row_below HUb.out b6)
      have HX06 := Lib.hid (row_below HX0b.out b6)
      have HX16 := Lib.hid (row_below HX1b.out b6)
      have HX26 := Lib.hid (row_below HX2b.out b6)
      have HB6 := Lib.hid (HBb.out.trans (b6.mono HBb.out.size))
      have HZ6 := Lib.hid (Nat.le_trans HZb.out b6.size)
      have HK6 := Lib.hid (HKb.out.below b6 HKb.out.lt)
      clear HOb HUb HX0b HX1b HX2b HBb HZb HKb
      clear b6 y0 y1 y2 y3 y4 lX
      by_cases n0 : r0 = 0
      · subst n0
        have n0 : (0 : Int) = 0 := rfl
        have y0 := HK6.out.cell 0
        have y1 := HK6.out.cell 1
        have y2 := HK6.out.cell 2
        have y3 := HK6.out.cell 3
        have y4 := HK6.out.cell 4
        have lX := HK6.out.lt
        simp at y0 y1 y2 y3 y4
        go_wp2_with fail
        refine (rest_any ⟨xf, xt, xp, xc, xs⟩ 1 tr r1 _ c1 (xcN ts 1) _ HOX (by decide) (by decide) btr (Lib.hid (xcN_bd HG.out 1)) (Lib.hid (IO.of_own HX16.out)) HR1).mono ?_
        rintro e w70 ⟨rfl, b6⟩
        have HO7 := Lib.hid (row_below HO6.out b6)
        have HU7 := Lib.hid (row_below HU6.out b6)
        have HX07 := Lib.hid (row_below HX06.out b6)
        have HX17 := Lib.hid (row_below HX16.out b6)
        have HX27 := Lib.hid (row_below HX26.out b6)
        have HB7 := Lib.hid (HB6.out.trans (b6.mono HB6.out.size))
        have HZ7 := Lib.hid (Nat.le_trans HZ6.out b6.size)
        have HK7 := Lib.hid (HK6.out.below b6 HK6.out.lt)
        clear HO6 HU6 HX06 HX16 HX26 HB6 HZ6 HK6
        clear b6 y0 y1 y2 y3 y4 lX
        by_cases n1 : r1 = 0
        · subst n1
          have n1 : (0 : Int) = 0 := rfl
          have y0 := HK7.out.cell 0
          have y1 := HK7.out.cell 1
          have y2 := HK7.out.cell 2
          have y3 := HK7.out.cell 3
          have y4 := HK7.out.cell 4
          have lX := HK7.out.lt
          simp at y0 y1 y2 y3 y4
          go_wp2_with fail
          refine (rest_any ⟨xf, xt, xp, xc, xs⟩ 2 tr r2 _ c2 (xcN ts 2) _ HOX (by decide) (by decide) btr (Lib.hid (xcN_bd HG.out 2)) (Lib.hid (IO.of_own HX27.out)) HR2).mono ?_
          rintro e w8 ⟨rfl, b6⟩
          have HO8 := Lib.hid (row_below HO7.out b6)
          have HU8 := Lib.hid (row_below HU7.out b6)
          have HX08 := Lib.hid (row_below HX07.out b6)
          have HX18 := Lib.hid (row_below HX17.out b6)
          have HX28 := Lib.hid (row_below HX27.out b6)
          have HB8 := Lib.hid (HB7.out.trans (b6.mono HB7.out.size))
          have HZ8 := Lib.hid (Nat.le_trans HZ7.out b6.size)
          have HK8 := Lib.hid (HK7.out.below b6 HK7.out.lt)
          clear HO7 HU7 HX07 HX17 HX27 HB7 HZ7 HK7
          clear b6 y0 y1 y2 y3 y4 lX
          by_cases n2 : r2 = 0
          · subst n2
            have n2 : (0 : Int) = 0 := rfl
            have HSY := Lib.hid (show exN ts U (k + 1) = exN ts U k ++ [(j : Int)] from exN_yes hq (by rw [HE.out]; simp [n0, n1, n2]))
            obtain ⟨g', o', eg, -, eU⟩ := (IO.of_own HU8.out).2 k _ hq
            obtain ⟨rfl, rfl⟩ : gU = g' ∧ oU = o' := by injection eg with eg; injection eg with e1 e2; exact ⟨e1, e2⟩
            clear eg
            have hs8 := HB8.out.size
            have hz8 := HZ8.out
            go_wp2_with (at_builtin; refine wpList_append_lies _ rfl _ _ 30 rfl w.heap.size 3 i0 (.int .i64 0) 1 8 Tryd.underlying30 hi hz0 hz1 hz2 rfl (by decide) _ _ _ rfl (HO8.out.alloc _) ⟨w8.heap.size, 0, none⟩ 1 1 [.int .i64 (j : Int)] rfl rfl (cell_one_new _ _ _) (by simp [Value.oneCell']) (by decide) (by unfold maxLen; omega) (by omega) (by simp; omega) _ rfl ?_; intro g9 c9 w9 hown' hgrow hat hlt9)
            have HAL := Lib.hid ((Below.refl w8.heap.size w8).alloc (Nat.le_refl _) (.cells #[.int .i64 (j : Int)] 3))
            have HGO9 := Lib.hid (show g9 = w.heap.size ∨ w7.heap.size ≤ g9 by
              rcases hat with z | z
              · have h0 : (Value.slice (some ⟨gO, 0, none⟩) m c).ownBlock = some g9 := z
                have h : gO = g9 := by simpa [Value.ownBlock] using h0
                rw [← h]; exact HGO.out
              · have z2 : g9 = w8.heap.size + 1 := by simpa using z
                omega)
            have HU9 := Lib.hid ((row_below HU8.out HAL.out).kept hgrow (.inr (fun e => HNE.out.1 e)))
            have HX09 := Lib.hid ((row_below HX08.out HAL.out).kept hgrow (.inr (fun e => HNE.out.2.1 e)))
            have HX19 := Lib.hid ((row_below HX18.out HAL.out).kept hgrow (.inr (fun e => HNE.out.2.2.1 e)))
            have HX29 := Lib.hid ((row_below HX28.out HAL.out).kept hgrow (.inr (fun e => HNE.out.2.2.2 e)))
            have HB9 := Lib.hid ((HB8.out.trans (HAL.out.mono hs8)).grown hgrow (by simp; omega) (fun g e => (HO8.out.lt g e).1))
            have HO9 := Lib.hid (show w9.ownsRow w.heap.size 3 1 (.slice (some ⟨g9, 0, none⟩) (m + 1) c9) (m + 1) (ints.intsV (exN ts U (k + 1))) by rw [HSY.out, intsV_app]; exact hown')
            have HZ9 := Lib.hid (show w7.heap.size ≤ w9.heap.size by have h := hgrow.size; simp at h; omega)
            clear hown' hgrow hat
            go_wp2_with fail
            go_roundw
            case rel => exact ⟨k + 1, m + 1, c9, g9, by omega, by go_num, by omega, rfl, HGO9.out, Lib.hid (by rw [HSY.out, List.length_append, HM.out]; rfl), HO9.out, HU9.out, HX09.out, HX19.out, HX29.out, HB9.out, HZ9.out⟩
            case measure => simp [intOf]; omega
          · skip
            have HST := Lib.hid (show exN ts U (k + 1) = exN ts U k from exN_no hq (by rw [HE.out]; simp [n2]))
            have q1 : decide (r2 = 0) = false := decide_eq_false n2
            have q2 : (r2 == 0) = false := by simpa using n2
            go_wp2_with fail
            go_roundw
            case rel => exact ⟨k + 1, m, c, gO, by omega, by go_num, by omega, rfl, HGO.out, Lib.hid (by rw [HST.out]; exact HM.out), by rw [HST.out]; exact HO8.out, HU8.out, HX08.out, HX18.out, HX28.out, HB8.out, HZ8.out⟩
            case measure => simp [intOf]; omega
        · skip
          have HST := Lib.hid (show exN ts U (k + 1) = exN ts U k from exN_no hq (by rw [HE.out]; simp [n1]))
          have q1 : decide (r1 = 0) = false := decide_eq_false n1
          have q2 : (r1 == 0) = false := by simpa using n1
          go_wp2_with fail
          go_roundw
          case rel => exact ⟨k + 1, m, c, gO, by omega, by go_num, by omega, rfl, HGO.out, Lib.hid (by rw [HST.out]; exact HM.out), by rw [HST.out]; exact HO7.out, HU7.out, HX07.out, HX17.out, HX27.out, HB7.out, HZ7.out⟩
          case measure => simp [intOf]; omega
      · skip
        have HST := Lib.hid (show exN ts U (k + 1) = exN ts U k from exN_no hq (by rw [HE.out]; simp [n0]))
        have q1 : decide (r0 = 0) = false := decide_eq_false n0
        have q2 : (r0 == 0) = false := by simpa using n0
        go_wp2_with fail
        go_roundw
        case rel => exact ⟨k + 1, m, c, gO, by omega, by go_num, by omega, rfl, HGO.out, Lib.hid (by rw [HST.out]; exact HM.out), by rw [HST.out]; exact HO6.out, HU6.out, HX06.out, HX16.out, HX26.out, HB6.out, HZ6.out⟩
        case measure => simp [intOf]; omega
    · have hkd : decide (k < nu) = false := by simpa using hlt
      obtain rfl : k = nu := by omega
      have HFIN := Lib.hid (show wr.ownsRow w.heap.size 3 1 (.slice (some ⟨gO, 0, none⟩) m c) (exN ts U k).length (ints.intsV (exN ts U k)) by rw [HM.out]; exact HOa.out)
      go_wp2_with fail
      go_ret2
      exact ⟨_, rfl, HFIN.out, HBa.out⟩
end Go.Proofs.YtgfopehceojahaaDoor.phx

namespace Go.Proofs.YtgfopehceojahaaDoor.phx
open Go.RowKit
open reads base ty lg lgi win hs nt nq rowi sn mt ml dt pg
set_option linter.unusedVariables false
set_option linter.unusedSimpArgs false

def updB (f : Nat → Bool) (j : Nat) (x : Bool) : Nat → Bool := fun i => if i = j then x else f i
/-- twelve marks in a block -/
def cb (f : Nat → Bool) : Array Value := ((List.range 12).map (fun j => Value.bool (f j))).toArray
theorem cb_size (f : Nat → Bool) : (cb f).size = 12 := by simp [cb]
theorem cb_at {j : Nat} (f : Nat → Bool) (h : j < 12) : (cb f)[j]? = some (.bool (f j)) := by simp [cb, h]
theorem cb_set {j : Nat} (f : Nat → Bool) (x : Bool) (h : j < 12) : (cb f).setIfInBounds j (.bool x) = cb (updB f j x) := by
  apply Array.ext_getElem?
  intro i
  rw [Array.getElem?_setIfInBounds]
  by_cases hi : i < 12
  · rw [cb_at (updB f j x) hi]
    by_cases e : j = i
    · subst e; rw [if_pos rfl, cb_size, if_pos h]; simp [updB]
    · rw [if_neg e, cb_at _ hi]; simp [updB, show ¬ i = j from fun q => e q.symm]
  · rw [Array.getElem?_eq_none (by rw [cb_size]; omega)]
    by_cases e : j = i
    · omega
    · rw [if_neg e, Array.getElem?_eq_none (by rw [cb_size]; omega)]
theorem cb_congr {f g : Nat → Bool} (h : ∀ j, j < 12 → f j = g j) : cb f = cb g := by
  unfold cb
  rw [List.map_congr_left (fun j hj => by rw [h j (List.mem_range.1 hj)])]
def ArL (w : World) (p : Nat) (f : Nat → Bool) : Prop := Blk w p 72 (cb f)
theorem ArL.at_ {w : World} {p : Nat} {f : Nat → Bool} (h : ArL w p f) {j : Nat} (hj : j < 12) : w.cell? ⟨p, j, none⟩ = some (.bool (f j)) := by rw [Blk.cell h, cb_at f hj]
theorem ArL.fro {w : World} {p : Nat} {f : Nat → Bool} (h : ArL w p f) (j : Nat) : w.frozen? ⟨p, j, none⟩ = false := Blk.frozen h j
theorem ArL.lt {w : World} {p : Nat} {f : Nat → Bool} (h : ArL w p f) : p < w.heap.size := Blk.lt h
theorem ArL.set {w : World} {p : Nat} {f : Nat → Bool} (h : ArL w p f) {j : Nat} (hj : j < 12) (x : Bool) : ArL (w.setCell ⟨p, j, none⟩ (.bool x)) p (updB f j x) := by
  have := Blk.set_ h j (.bool x)
  rw [cb_set f x hj] at this; exact this
theorem ArL.below {w w' : World} {p : Nat} {f : Nat → Bool} (h : ArL w p f) {B : Nat} (hb : Below B w w') (hp : p < B) : ArL w' p f := Blk.below h hb hp
theorem ArL.congr {w : World} {p : Nat} {f g : Nat → Bool} (h : ArL w p f) (e : ∀ j, j < 12 → f j = g j) : ArL w p g := by unfold ArL; rw [← cb_congr e]; exact h
theorem IO_far {w : World} {n R : Nat} {A : Option Addr} {xs : List Int} (h : IO w w.heap.size A n xs) (hne : ∀ g o, A = some ⟨g, o, none⟩ → ¬ g = R) (i : Nat) (v : Value) : IO (w.setCell ⟨R, i, none⟩ v) (w.setCell ⟨R, i, none⟩ v).heap.size A n xs := by
  refine ⟨h.1, fun q x hx => ?_⟩
  obtain ⟨g, o, e, hg9, hc⟩ := h.2 q x hx
  refine ⟨g, o, e, by simpa [World.setCell] using hg9, ?_⟩
  refine (World.cell?_setCell_other w _ _ _ (fun z => ?_)).trans hc
  injection z with z1 _
  exact hne g o e z1.symm
theorem own_ne {w : World} {base n c R : Nat} {A : Option Addr} {e : TypeId} {xs : List Value} (h : w.ownsRow base e 1 (.slice A n c) n xs) (hR : R < base) : ∀ g o, A = some ⟨g, o, none⟩ → ¬ g = R := fun g o ea z => by
  rcases h.2 with ⟨z1, -⟩ | ⟨g1, c1, u1, z1, z2, -⟩
  · injection z1 with z1 _ _; rw [ea] at z1; cases z1
  · injection z1 with z1 _ _; rw [ea] at z1; injection z1 with z1; injection z1 with z1 _; omega
/-- a leg's residual is 0, or it is not placed -/
def zr (ts : List Lg) (a i : Nat) : Bool := rsF ts (a : Int) (xcN ts (a : Int)) (TC ts) (plIds ts) i == 0
/-- the marks behind some axes -/
def st (ts : List Lg) (a i : Nat) : Bool := mem (plIds ts) (i : Int) && (List.range a).all (fun b => zr ts b i)
def inn (ts : List Lg) (a k i : Nat) : Bool := if i < k then st ts (a + 1) i else st ts a i
theorem st_step (ts : List Lg) (a i : Nat) : st ts (a + 1) i = (st ts a i && zr ts a i) := by
  unfold st; rw [List.range_succ, List.all_append]; simp [Bool.and_assoc]
theorem inn_step {ts : List Lg} {a k : Nat} {v : Bool} (h : v = (st ts a k && zr ts a k)) (i : Nat) : updB (inn ts a k) k v i = inn ts a (k + 1) i := by
  unfold updB inn
  by_cases e : i = k
  · subst e; rw [if_pos rfl, if_pos (Nat.lt_succ_self _), st_step]; exact h
  · rw [if_neg e]
    by_cases q : i < k
    · rw [if_pos q, if_pos (by omega)]
    · rw [if_neg q, if_neg (by omega)]
theorem st_out {ts : List Lg} {a i : Nat} (h : ¬ i < ts.length) : st ts a i = false := by
  unfold st
  cases e : mem (plIds ts) (i : Int)
  · rfl
  · obtain ⟨j, e1, x, hx, -⟩ := plIds_at (mem_iff.1 e)
    obtain rfl : i = j := by omega
    exact absurd (lt_at hx) h
theorem inn_end (ts : List Lg) (a i : Nat) : inn ts a ts.length i = st ts (a + 1) i := by
  unfold inn
  split
  · rfl
  · rename_i h; rw [st_out h, st_out h]
theorem st_three (ts : List Lg) {k : Nat} (h : (k : Int) ∈ plIds ts) : st ts 3 k = exB ts (k : Int) := by
  unfold st exB zr rA rsF
  simp only [if_pos h]
  rw [mem_iff.2 h, show List.range 3 = [0, 1, 2] from rfl]
  simp
  try rfl
theorem tru_st (ts : List Lg) : ∀ k, k ≤ 12 → tru ((List.range 12).map (st ts 3)) k = (plN ts k).filter (exB ts)
  | 0, _ => rfl
  | k + 1, hk => by
    have ih := tru_st ts k (by omega)
    have e : ((List.range 12).map (st ts 3))[k]? = some (st ts 3 k) := by rw [List.getElem?_map, List.getElem?_range (by omega)]; rfl
    cases hx : ts[k]? with
    | none =>
      have hs : st ts 3 k = false := st_out (fun h => by rw [List.getElem?_eq_none_iff] at hx; omega)
      rw [hs] at e
      rw [tru_no e, ih, show plN ts (k + 1) = plN ts k by unfold plN; rw [rowi.idxs, hx]]
    | some x =>
      cases q : mem (net ts).ps x.frm
      · have hn : ¬ (k : Int) ∈ plIds ts := fun z => by
          obtain ⟨j, e, y, hy, hm⟩ := plIds_at z
          obtain rfl : k = j := by omega
          rw [hx] at hy
          obtain rfl := Option.some.inj hy
          rw [q] at hm; cases hm
        have hs : st ts 3 k = false := by
          unfold st
          cases e9 : mem (plIds ts) (k : Int)
          · rfl
          · exact absurd (mem_iff.1 e9) hn
        rw [hs] at e
        rw [tru_no e, ih, show plN ts (k + 1) = plN ts k from rowi.idxs_no hx q]
      · have hp := pl_all hx q
        rw [st_three ts hp] at e
        rw [show plN ts (k + 1) = plN ts k ++ [(k : Int)] from rowi.idxs_yes hx q, List.filter_append]
        cases b : exB ts (k : Int)
        · rw [b] at e; rw [tru_no e, ih]; simp [b]
        · rw [b] at e; rw [tru_yes e, ih]; simp [b]
theorem plN_more (ts : List Lg) : ∀ d, plN ts (ts.length + d) = plIds ts
  | 0 => rfl
  | d + 1 => by
    have h : ts[ts.length + d]? = none := List.getElem?_eq_none (by omega)
    rw [← plN_more ts d]
    show plN ts (ts.length + d + 1) = _
    unfold plN; rw [rowi.idxs, h]
theorem tru_ex {ts : List Lg} (hg : goodLg ts = true) (h : ts.length ≤ 12) : tru ((List.range 12).map (st ts 3)) 12 = exIds ts := by
  rw [tru_st ts 12 (Nat.le_refl _)]
  have := plN_more ts (12 - ts.length)
  rw [show ts.length + (12 - ts.length) = 12 by omega] at this
  unfold exIds
  rw [this, hg, if_pos rfl]
theorem fld3 (a : Option Addr) (b c : Nat) (d : Int) (x : Option Addr) (y z : Nat) (p : Option Addr) (q r : Nat) (W : World) : (Instr.field 56 (.agg #[.slice a b c, .int .i64 d, .slice x y z, .slice p q r]) 3).run Tryd.prog W = .ok (.slice p q r) W := by kernel_rfl
set_option maxHeartbeats 16000000 in
set_option maxRecDepth 100000 in
theorem exact_impl (A : Option Addr) (n cap : Nat) (ts : List Lg) (w : World) (hn : n ≤ 2000000) (hts : Hid (LgAt w w.heap.size A n ts)) (hT : Hid (Tab w)) :
    Calls Tryd.prog 30 #[.slice A n cap] w (LPost (exIds ts) (goodLg ts) w) := by
  have HL := Lib.hid hts.out.1
  obtain ⟨C, HC⟩ : ∃ C, Hid (nv (netS ts) (clS ts) = C) := ⟨_, Lib.hid rfl⟩
  have hcz : C.size = 56 := by rw [← HC.out]; exact nv_size (nok_S ts)
  have HC1 := Lib.hid (show C.all (·.oneCell') = true by rw [← HC.out]; exact nv_one)
  obtain ⟨g, HG⟩ : ∃ g, Hid (goodLg ts = g) := ⟨_, Lib.hid rfl⟩
  rw [HG.out]
  go_enter Tryd.func30, Tryd.ntmps30
  go_wp2_with fail
  refine (net_any A n cap ts C g HC HG _ hn hts hT).mono ?_
  rintro e w1 ⟨rfl, b1⟩
  have HB1 := Lib.hid b1
  clear b1
  have hst := lay_net hcz HC1.out w1
  have HB2 := Lib.hid (HB1.out.alloc HB1.out.size (.cells C 74))
  have HG2 := Lib.hid (Blk.new w1 74 C)
  go_upto_region 2 with fail
  clear hst
  obtain ⟨W, HW⟩ : ∃ W, Hid (w1.alloc (.cells C 74) = W) := ⟨_, Lib.hid rfl⟩
  obtain ⟨G, HGG⟩ : ∃ q, Hid (w1.heap.size = q) := ⟨_, Lib.hid rfl⟩
  rw [HGG.out] at HG2
  rw [HW.out] at HB2 HG2 ⊢
  try simp only [HGG.out]
  clear HW HB1 HGG
  cases g
  · have HF := Lib.hid (show exIds ts = [] by unfold exIds; rw [HG.out]; rfl)
    rw [HF.out]
    have HR := Lib.hid (show (W.alloc (.cells #[] 3)).ownsRow w.heap.size 3 1 (.slice (some ⟨W.heap.size, 0, none⟩) 0 0) 0 [] from World.ownsRow_made W #[] 0 HB2.out.size (by decide) (by simp))
    go_wp2_with fail
    go_ret2
    exact ⟨.slice (some ⟨W.heap.size, 0, none⟩) 0 0, rfl, by rw [HF.out]; exact HR.out, HB2.out.alloc HB2.out.size _⟩
  have HCN := Lib.hid (show nv (net ts) (clS ts) = C by rw [← HC.out]; unfold netS; rw [HG.out]; rfl)
  have hcl12 : (clS ts).length = 12 := (nok_S ts).2
  have hn12 := len12 HL.out HG.out
  go_upto_region 5 with fail
  obtain ⟨W7, HW7⟩ : ∃ Q, Hid (W.alloc (.cells #[.bool false, .bool false, .bool false, .bool false, .bool false, .bool false, .bool false, .bool false, .bool false, .bool false, .bool false, .bool false] 72) = Q) := ⟨_, Lib.hid rfl⟩
  obtain ⟨Sb, HSb⟩ : ∃ q, Hid (W.heap.size = q) := ⟨_, Lib.hid rfl⟩
  have HS7 := Lib.hid (show ArL W7 Sb (fun _ => false) by rw [← HW7.out, ← HSb.out]; exact Blk.new _ _ _)
  have HB7 := Lib.hid (HB2.out.alloc HB2.out.size (.cells #[.bool false, .bool false, .bool false, .bool false, .bool false, .bool false, .bool false, .bool false, .bool false, .bool false, .bool false, .bool false] 72))
  have HG7 := Lib.hid (HG2.out.alloc (.cells #[.bool false, .bool false, .bool false, .bool false, .bool false, .bool false, .bool false, .bool false, .bool false, .bool false, .bool false, .bool false] 72))
  have hwS : w.heap.size ≤ Sb := by rw [← HSb.out]; exact HB2.out.size
  have hGS : ¬ G = Sb := fun z => by have := HG2.out.lt; have e := HSb.out; omega
  rw [HW7.out] at HB7 HG7 ⊢
  try simp only [HSb.out]
  clear HW7 HSb HB2 HG2
  refine wp_region_list ?_
  refine step_move _ rfl _ rfl _ rfl ?_
  simp only [Act.put, List.getElem_toArray, List.getElem_cons_succ, List.getElem_cons_zero, List.setIfInBounds_toArray, List.set_cons_zero, List.set_cons_succ]
  refine step_load _ rfl _ rfl G _ rfl HG7.out hcz ?_
  simp only [Act.put, List.getElem_toArray, List.getElem_cons_succ, List.getElem_cons_zero, List.setIfInBounds_toArray, List.set_cons_zero, List.set_cons_succ]
  go_wp2_with fail
  refine (placedLegs_any A n cap ts (clS ts) C _ HCN hcl12 HG (Lib.hid (hts.out.step HB7.out))).mono ?_
  rintro e w8 ⟨vU, rfl, hOU, b8⟩
  obtain ⟨U, HU⟩ : ∃ q, Hid (plIds ts = q) := ⟨_, Lib.hid rfl⟩
  obtain ⟨nu, HNU⟩ : ∃ q, Hid (U.length = q) := ⟨_, Lib.hid rfl⟩
  have hnu : nu ≤ 12 := by rw [← HNU.out, ← HU.out]; have := plIds_len' ts; rw [HL.out] at this; omega
  rw [HU.out, HNU.out] at hOU
  obtain ⟨AU, cU, rfl⟩ := row_slice hOU
  have HUG := Lib.hid (own_ne hOU HS7.out.lt)
  have HU8 := Lib.hid (IO.of_own hOU)
  have HS8 := Lib.hid (HS7.out.below b8 HS7.out.lt)
  have HG8 := Lib.hid (HG7.out.below b8 HG7.out.lt)
  have HB8 := Lib.hid (HB7.out.trans (b8.mono HB7.out.size))
  clear hOU b8 HS7 HB7 HG7
  go_wp2_with fail
  go_loopw [25] (fun i wr => ∃ k : Nat, k ≤ nu ∧ i = .int .i64 (k : Nat) ∧ ArL wr Sb (fun i => mem (U.take k) (i : Int)) ∧ IO wr wr.heap.size AU nu U ∧ Blk wr G 74 C ∧ Below w.heap.size w wr) (fun i _ => nu - (intOf i).toNat)
  case atStart => exact ⟨0, Nat.zero_le _, rfl, HS8.out, HU8.out, HG8.out, HB8.out⟩
  case round =>
    obtain ⟨k, hk, rfl, hS, hR, hN, hB⟩ := hrel
    have HSQ := Lib.hid hS
    have HRQ := Lib.hid hR
    have HGQ := Lib.hid hN
    have HBQ := Lib.hid hB
    clear hR hS hB hN HS8 HU8 HB8 HG8
    have hk0 : (0 : Int) ≤ (k : Int) := by omega
    by_cases hlt : k < nu
    · have hki : (k : Int) < (nu : Int) := by omega
      have hkd : decide (k < nu) = true := by simpa using hlt
      obtain ⟨q, hq⟩ := at_lt HNU.out hlt
      obtain ⟨j, rfl, x, hx, -⟩ := plIds_at (by rw [HU.out]; exact List.mem_of_getElem? hq)
      have hj12 : j < 12 := by have := lt_at hx; rw [HL.out] at this; omega
      have hji : (j : Int) < 12 := by omega
      have hj0 : (0 : Int) ≤ (j : Int) := by omega
      have HTK := Lib.hid (take_snoc hq)
      obtain ⟨gU, oU, rfl, hgU, eU⟩ := HRQ.out.2 k _ hq
      have fz := HSQ.out.fro j
      have lz := HSQ.out.lt
      have dz := HSQ.out.at_ hj12
      have HS2 := Lib.hid (HSQ.out.set hj12 true)
      have HR2 := Lib.hid (IO_far HRQ.out HUG.out j (.bool true))
      have HB2 := Lib.hid (HBQ.out.setCell (p := ⟨Sb, j, none⟩) hwS (.bool true))
      have HG2 := Lib.hid (HGQ.out.far (p := ⟨Sb, j, none⟩) hGS (.bool true))
      clear hq hx
      go_wp2_with fail
      go_roundw
      case rel => exact ⟨k + 1, by omega, by go_num, HS2.out.congr (fun i _ => by
        show (if i = j then true else mem (U.take k) (i : Int)) = mem (U.take (k + 1)) (i : Int)
        rw [HTK.out]
        by_cases e : i = j
        · rw [if_pos e, e]; exact (mem_iff.2 (List.mem_append_right _ (by simp))).symm
        · rw [if_neg e, Bool.eq_iff_iff, mem_iff, mem_iff, List.mem_append]
          exact ⟨fun h => Or.inl h, fun h => h.elim id (fun h => absurd (show i = j by have h := List.mem_singleton.1 h; omega) e)⟩), HR2.out, HG2.out, HB2.out⟩
      case measure => simp [intOf]; omega
    · have hkd : decide (k < nu) = false := by simpa using hlt
      obtain rfl : k = nu := by omega
      have HS9 := Lib.hid (HSQ.out.congr (g := st ts 0) (fun i _ => by
        show mem (U.take k) (i : Int) = st ts 0 i
        unfold st
        rw [List.take_of_length_le (by rw [HNU.out]; exact Nat.le_refl _), HU.out]; simp))
      clear HSQ HRQ
      go_wp2_with fail
      go_loopw [9] (fun i wr => ∃ a : Nat, a ≤ 3 ∧ i = .int .i64 (a : Nat) ∧ ArL wr Sb (st ts a) ∧ Blk wr G 74 C ∧ Below w.heap.size w wr) (fun i _ => 3 - (intOf i).toNat)
      case atStart => exact ⟨0, by omega, rfl, HS9.out, HGQ.out, HBQ.out⟩
      case round =>
        clear HS9 HGQ HBQ hk0 hlt hkd
        obtain ⟨a, ha, rfl, hS, hN, hB⟩ := hrel
        have HSQ := Lib.hid hS
        have HGQ := Lib.hid hN
        have HBQ := Lib.hid hB
        clear hS hB hN
        have ha0 : (0 : Int) ≤ (a : Int) := by omega
        by_cases hlt : a ≤ 2
        · have hki : (a : Int) ≤ 2 := by omega
          have hkd : decide (a ≤ 2) = true := by simpa using hlt
          have hkd2 : decide ((a : Int) ≤ 2) = true := by simpa using hki
          have xa : IntKind.i64.wrap ((a : Int) + 1) = (a : Int) + 1 := IntWalk.i64_in _ (by omega)
          go_upto_region 13 with fail
          refine wp_region_list ?_
          refine step_move _ rfl _ rfl _ rfl ?_
          simp only [Act.put, List.getElem_toArray, List.getElem_cons_succ, List.getElem_cons_zero, List.setIfInBounds_toArray, List.set_cons_zero, List.set_cons_succ]
          refine step_load _ rfl _ rfl G _ rfl HGQ.out hcz ?_
          simp only [Act.put, List.getElem_toArray, List.getElem_cons_succ, List.getElem_cons_zero, List.setIfInBounds_toArray, List.set_cons_zero, List.set_cons_succ]
          go_wp2_with fail
          refine (adjOn_any A n cap ts (clS ts) C (a : Int) _ ha0 hki HCN hcl12 HG (Lib.hid (hts.out.step HBQ.out)) (Lib.hid (hT.out.below HBQ.out))).mono ?_
          rintro e w6 ⟨AU2, cU2, Ax, cx, Ar, cr, rfl, -, -, hOR, b6⟩
          rw [HL.out] at hOR ⊢
          have HUG2 := Lib.hid (own_ne hOR HSQ.out.lt)
          have HR6 := Lib.hid (IO.of_own hOR)
          have HS6 := Lib.hid (HSQ.out.below b6 HSQ.out.lt)
          have HG6 := Lib.hid (HGQ.out.below b6 HGQ.out.lt)
          have HB6 := Lib.hid (HBQ.out.trans (b6.mono HBQ.out.size))
          clear hOR b6 HSQ HGQ HBQ
          have hfd := fld3 AU2 (plIds ts).length cU2 (TC ts) Ax 8 cx Ar n cr w6
          go_wp2_with fail
          clear hfd
          go_loopw [42] (fun i wr => ∃ k : Nat, k ≤ n ∧ i = .int .i64 (k : Nat) ∧ ArL wr Sb (inn ts a k) ∧ IO wr wr.heap.size Ar n (rsL ts (a : Int) (xcN ts (a : Int)) (TC ts)) ∧ Blk wr G 74 C ∧ Below w.heap.size w wr) (fun i _ => n - (intOf i).toNat)
          case atStart => exact ⟨0, Nat.zero_le _, rfl, HS6.out.congr (fun i _ => by unfold inn; rw [if_neg (Nat.not_lt_zero _)]), HR6.out, HG6.out, HB6.out⟩
          case round =>
            clear HS6 HR6 HG6 HB6
            obtain ⟨k, hk, rfl, hS, hR, hN, hB⟩ := hrel
            have HSQ2 := Lib.hid hS
            have HRQ2 := Lib.hid hR
            have HGQ2 := Lib.hid hN
            have HBQ2 := Lib.hid hB
            clear hR hS hB hN
            have hk0 : (0 : Int) ≤ (k : Int) := by omega
            by_cases hlt2 : k < n
            · have hki2 : (k : Int) < (n : Int) := by omega
              have hkd2 : decide (k < n) = true := by simpa using hlt2
              have hk12 : k < 12 := by omega
              have hk12i : (k : Int) < 12 := by omega
              have hrl : (rsL ts (a : Int) (xcN ts (a : Int)) (TC ts))[k]? = some (rsF ts (a : Int) (xcN ts (a : Int)) (TC ts) (plIds ts) k) := by
                unfold rsL; rw [List.getElem?_map, List.getElem?_range (by rw [HL.out]; exact hlt2)]; rfl
              have HZR := Lib.hid (show zr ts a k = (rsF ts (a : Int) (xcN ts (a : Int)) (TC ts) (plIds ts) k == 0) from rfl)
              obtain ⟨r, HRV⟩ : ∃ q, Hid (rsF ts (a : Int) (xcN ts (a : Int)) (TC ts) (plIds ts) k = q) := ⟨_, Lib.hid rfl⟩
              rw [HRV.out] at hrl HZR
              obtain ⟨gR, oR, rfl, hgR, eR⟩ := HRQ2.out.2 k _ hrl
              obtain ⟨b, HBV⟩ : ∃ q, Hid (st ts a k = q) := ⟨_, Lib.hid rfl⟩
              have fz := HSQ2.out.fro k
              have lz := HSQ2.out.lt
              have dz := HSQ2.out.at_ hk12
              rw [show inn ts a k k = b by unfold inn; rw [if_neg (Nat.lt_irrefl _)]; exact HBV.out] at dz
              clear hrl
              cases b
              · skip
                have HS2 := Lib.hid (HSQ2.out.set hk12 false)
                have HR2 := Lib.hid (IO_far HRQ2.out HUG2.out k (.bool false))
                have HB2 := Lib.hid (HBQ2.out.setCell (p := ⟨Sb, k, none⟩) hwS (.bool false))
                have HG2 := Lib.hid (HGQ2.out.far (p := ⟨Sb, k, none⟩) hGS (.bool false))
                have HST := Lib.hid (show ∀ i, updB (inn ts a k) k false i = inn ts a (k + 1) i from inn_step (by rw [HBV.out]; rfl))
                go_wp2_with fail
                go_roundw
                case rel => exact ⟨k + 1, by omega, by go_num, HS2.out.congr (fun i _ => HST.out i), HR2.out, HG2.out, HB2.out⟩
                case measure => simp [intOf]; omega
              · by_cases hr : r = 0
                · subst hr
                  have HS2 := Lib.hid (HSQ2.out.set hk12 true)
                  have HR2 := Lib.hid (IO_far HRQ2.out HUG2.out k (.bool true))
                  have HB2 := Lib.hid (HBQ2.out.setCell (p := ⟨Sb, k, none⟩) hwS (.bool true))
                  have HG2 := Lib.hid (HGQ2.out.far (p := ⟨Sb, k, none⟩) hGS (.bool true))
                  have HST := Lib.hid (show ∀ i, updB (inn ts a k) k true i = inn ts a (k + 1) i from inn_step (by rw [HBV.out, HZR.out]; rfl))
                  go_wp2_with fail
                  go_roundw
                  case rel => exact ⟨k + 1, by omega, by go_num, HS2.out.congr (fun i _ => HST.out i), HR2.out, HG2.out, HB2.out⟩
                  case measure => simp [intOf]; omega
                · have q1 : decide (r = 0) = false := decide_eq_false hr
                  have q2 : (r == 0) = false := by simpa using hr
                  have HS2 := Lib.hid (HSQ2.out.set hk12 false)
                  have HR2 := Lib.hid (IO_far HRQ2.out HUG2.out k (.bool false))
                  have HB2 := Lib.hid (HBQ2.out.setCell (p := ⟨Sb, k, none⟩) hwS (.bool false))
                  have HG2 := Lib.hid (HGQ2.out.far (p := ⟨Sb, k, none⟩) hGS (.bool false))
                  have HST := Lib.hid (show ∀ i, updB (inn ts a k) k false i = inn ts a (k + 1) i from inn_step (by rw [HBV.out, HZR.out, q2]; rfl))
                  go_wp2_with fail
                  go_roundw
                  case rel => exact ⟨k + 1, by omega, by go_num, HS2.out.congr (fun i _ => HST.out i), HR2.out, HG2.out, HB2.out⟩
                  case measure => simp [intOf]; omega
            · have hkd2 : decide (k < n) = false := by simpa using hlt2
              obtain rfl : k = n := by omega
              have HS9 := Lib.hid (HSQ2.out.congr (g := st ts (a + 1)) (fun i _ => by rw [← HL.out]; exact inn_end ts a i))
              go_wp2_with fail
              go_roundw
              case rel => exact ⟨a + 1, by omega, by go_num, HS9.out, HGQ2.out, HBQ2.out⟩
              case measure => simp [intOf]; omega
        · have hkd : decide (a ≤ 2) = false := by simpa using hlt
          have hkd2 : decide ((a : Int) ≤ 2) = false := by simp; omega
          obtain rfl : a = 3 := by omega
          have HBS := Lib.hid (show BsAt wr Sb 0 ((List.range 12).map (st ts 3)) from fun i b hi => by
            have h12 : i < 12 := by have := lt_at hi; simpa using this
            rw [List.getElem?_map, List.getElem?_range h12] at hi
            obtain rfl := Option.some.inj hi
            exact ⟨HSQ.out.lt, by rw [Nat.zero_add]; exact HSQ.out.at_ h12⟩)
          go_wp2_with fail
          refine (marked_any Sb 0 12 _ _ (Lib.hid (by simp)) (by decide) HBS).mono ?_
          rintro e w9 ⟨A9, c9, rfl, hO, b9⟩
          rw [tru_ex HG.out (by rw [HL.out]; exact hn12)] at hO ⊢
          have HO := Lib.hid (own_mono hO HBQ.out.size)
          have HB9 := Lib.hid (HBQ.out.trans (b9.mono HBQ.out.size))
          clear hO b9
          go_wp2_with fail
          go_ret2
          exact ⟨_, rfl, HO.out, HB9.out⟩
end Go.Proofs.YtgfopehceojahaaDoor.phx
