/-
  Lists of points put together by the library: room for a number of them, several lists as one.
  Conditions: the points lie in one block, at most 2000000 of them.
-/
import Derived.Test.YtiimegmaokfpgaaVaQ
import Derived.BigQuiet
import Derived.Deep.QuietTactic
import Derived.Deep.Cut
import Derived.Deep.DeepCutAuto
import Derived.RegionTactic
import Derived.Deep.RegionWith
import Derived.OwnWalk
import Derived.Lib.AppendZerosOnto
import Derived.Lib.SliceRun
import Derived.Laws.AppendOwnNone
namespace Go.Proofs.Ytiimegmaokfpgaa.va
open Go.RowKit
open reads base ty rowi
set_option linter.unusedVariables false
set_option linter.unusedSimpArgs false

set_option maxHeartbeats 4000000 in
set_option maxRecDepth 100000 in
theorem grow_any (m : Nat) (w : World) (hm : m ≤ 100) :
    Calls Try.prog 81 #[.slice none 0 0, .int .i64 (m : Nat)] w fun e w' => ∃ A c, e = .returned (.slice A 0 c) ∧ w'.ownsRow w.heap.size 42 2 (.slice A 0 c) 0 [] ∧ Below w.heap.size w w' := by
  have h1 : ¬ ((m : Int) < 0) := by omega
  have hm0 : (0 : Int) ≤ (m : Int) := by omega
  by_cases h0 : m = 0
  · subst h0
    go_enter Try.func81, Try.ntmps81
    go_wp2_with fail
    go_ret
    exact ⟨none, 0, rfl, World.ownsRow_nil _ _ _ _, Below.refl _ _⟩
  · obtain ⟨i0, hi, hz0, hz1, hz2⟩ := info_parts infoDp
    have hgt : decide ((0 : Int) < (m : Int)) = true := by simp; omega
    have hgt2 : decide (0 < m) = true := by simp; omega
    have hpos : (0 : Int) < (m : Int) := by omega
    have hold : (Builtin.firstCells i0.size 0 (.slice none 0 0)).run Try.prog w.drew = .ok (([] : List Value).toArray) w.drew := run_firstCells_none w.drew i0.size 0 0 0
    have hr := fun ty => Lib.run_append_grow_zeros (P := Try.prog) w 24 3 ty 42 i0 _ .i64 .i64 Try.underlying24 Try.underlying3 hi hz0 none 0 0 [] hold m (by omega) (by omega) (by omega) (by omega) (by rw [hz2]; omega)
      (by rw [hz2]; exact growslice_fits (by omega) (by omega))
    obtain ⟨C, hC⟩ : ∃ C, C = grownCap w (0 + m) 0 42 := ⟨_, rfl⟩
    have hge := grownCap_ge w (0 + m) 0 42
    have hle := grownCap_le_maxLen w (0 + m) 0 42 (by unfold maxLen; omega)
    rw [← hC] at hge hle
    simp only [← hC] at hr
    obtain ⟨Z, hZ⟩ : ∃ Z : Array Value, Z = (([] : List Value).toArray ++ Builtin.zeroCells (Value.cells (.agg #[.int .i64 0, .int .i64 0])) m ++ Builtin.zeroCells (Value.cells (.agg #[.int .i64 0, .int .i64 0])) (C - (0 + m))) := ⟨_, rfl⟩
    have hzs : Z.size = C * 2 := by rw [hZ]; simp [Builtin.zeroCells, Value.cells]; omega
    simp only [← hZ] at hr
    have HROW := Lib.hid (show ((w.drew.alloc (.cells Z 42))).ownsRow w.heap.size 42 2 (.slice (some ⟨w.heap.size, 0, none⟩) 0 C) 0 [] from
      ⟨by simp, .inr ⟨w.heap.size, C, Z, rfl, Nat.le_refl _, alloc_at rfl, Nat.zero_le _, hle, hzs, by simp⟩⟩)
    have HB := Lib.hid (show Below w.heap.size w (w.drew.alloc (.cells Z 42)) from (Below.refl _ _).drew.alloc (Nat.le_refl _) _)
    have hr0 := hr
    rw [Nat.zero_add] at hr
    have hcl : (0 : Int) ≤ (C : Int) := by omega
    have hmC : (m : Int) ≤ (C : Int) := by omega
    have hC63 : (C : Int) ≤ 9223372036854775807 := by unfold maxLen at hle; omega
    clear hC hZ hge hle hold hr0
    go_enter Try.func81, Try.ntmps81
    go_wp2_with (at_builtin; refine Lib.wpList_append_run _ rfl _ _ _ _ rfl _ _ rfl rfl _ _ (hr _) ?_)
    go_ret
    exact ⟨_, _, rfl, HROW.out, HB.out⟩
/-- a list among those that are put together -/
structure Prt where
  A : Option Addr
  n : Nat
  c : Nat
  ts : List Dp
def PrtOk (w : World) (B : Nat) (p : Prt) : Prop :=
  p.ts.length = p.n ∧ p.n ≤ 8 ∧ ((∃ ad, p.A = some ad ∧ (0 < p.n → ad.block < B) ∧ ∀ j u, (flatDp p.ts)[j]? = some u → w.cell? (ad.add j) = some u) ∨ (p.A = none ∧ p.n = 0 ∧ p.c = 0))
theorem PrtOk.below {w w' : World} {B : Nat} {p : Prt} (h : PrtOk w B p) (hb : Below B w w') : PrtOk w' B p :=
  ⟨h.1, h.2.1, by
    rcases h.2.2 with ⟨ad, e, hB, hc⟩ | h
    · exact .inl ⟨ad, e, hB, fun j u hu => by
        rcases Nat.eq_zero_or_pos p.n with z | z
        · have := lt_at hu; rw [flatDp_len, h.1, z] at this; omega
        · exact (hb.cell (p := ad.add j) (by rw [block_of_add]; exact hB z)).trans (hc j u hu)⟩
    · exact .inr h⟩
def PrtsAt (w : World) (B g : Nat) (ps : List Prt) : Prop := g < B ∧ ∀ (k : Nat) p, ps[k]? = some p → w.cell? ⟨g, k, none⟩ = some (.slice p.A p.n p.c) ∧ PrtOk w B p
theorem PrtsAt.below {w w' : World} {B g : Nat} {ps : List Prt} (h : PrtsAt w B g ps) (hb : Below B w w') : PrtsAt w' B g ps :=
  ⟨h.1, fun k p hp => ⟨(hb.cell (p := ⟨g, k, none⟩) h.1).trans (h.2 k p hp).1, (h.2 k p hp).2.below hb⟩⟩
def tot : List Prt → Nat
  | [] => 0
  | p :: ps => p.n + tot ps
def joinP (ps : List Prt) : List Dp := ps.flatMap (·.ts)
theorem tot_app : ∀ (ps : List Prt) (p : Prt), tot (ps ++ [p]) = tot ps + p.n
  | [], p => by simp [tot]
  | q :: ps, p => by simp only [List.cons_append, tot, tot_app ps p]; omega
theorem joinP_app (ps : List Prt) (p : Prt) : joinP (ps ++ [p]) = joinP ps ++ p.ts := by simp [joinP]
theorem tot_le {w : World} {B g : Nat} {ps : List Prt} (h : PrtsAt w B g ps) : ∀ k, k ≤ ps.length → tot (ps.take k) ≤ 8 * k ∧ (joinP (ps.take k)).length = tot (ps.take k)
  | 0, _ => by simp [tot, joinP]
  | k + 1, hk => by
    obtain ⟨p, hp⟩ := at_lt rfl (show k < ps.length by omega)
    have ih := tot_le h k (by omega)
    obtain ⟨-, a, b, -⟩ := h.2 k p hp
    rw [take_snoc hp, tot_app, joinP_app, List.length_append]
    omega
set_option maxHeartbeats 8000000 in
set_option maxRecDepth 100000 in
theorem concat_any (g m c : Nat) (ps : List Prt) (w : World) (hm : m ≤ 3) (hl : ps.length = m) (hps : Hid (PrtsAt w w.heap.size g ps)) :
    Calls Try.prog 71 #[.slice (some ⟨g, 0, none⟩) m c] w fun e w' => ∃ A c, e = .returned (.slice A (joinP ps).length c) ∧ w'.ownsRow w.heap.size 42 2 (.slice A (joinP ps).length c) (joinP ps).length (flatDp (joinP ps)) ∧ Below w.heap.size w w' := by
  obtain ⟨i0, hi, hz0, hz1, hz2⟩ := info_parts infoDp
  go_enter Try.func71, Try.ntmps71
  go_wp2_with fail
  go_loopw [3, 11] (fun s i wr => ∃ k : Nat, k ≤ m ∧ i = .int .i64 (k : Nat) ∧ s = .int .i64 (tot (ps.take k) : Nat) ∧ w = wr) (fun _ i _ => m - (intOf i).toNat)
  case atStart => exact ⟨0, Nat.zero_le _, rfl, rfl, rfl⟩
  case round =>
    obtain ⟨k, hk, rfl, rfl, rfl⟩ := hrel
    have hk0 : (0 : Int) ≤ (k : Int) := by omega
    have ht := (tot_le hps.out k (by omega)).1
    obtain ⟨s, HS⟩ : ∃ s, Hid (tot (ps.take k) = s) := ⟨_, Lib.hid rfl⟩
    rw [HS.out] at ht
    rw [HS.out]
    have hs0 : (0 : Int) ≤ (s : Int) := by omega
    have hs24 : (s : Int) ≤ 24 := by omega
    by_cases hlt : k < m
    · have hki : (k : Int) < (m : Int) := by omega
      have hkd : decide (k < m) = true := by simpa using hlt
      obtain ⟨p, hp⟩ := at_lt hl hlt
      obtain ⟨c0, hpl, hp8, -⟩ := hps.out.2 k p hp
      have hgl := hps.out.1
      have hpn0 : (0 : Int) ≤ (p.n : Int) := by omega
      have hpn8 : (p.n : Int) ≤ 8 := by omega
      have HN := Lib.hid (show tot (ps.take (k + 1)) = s + p.n by rw [take_snoc hp, tot_app, HS.out])
      have hnn : ¬ ((s : Int) + (p.n : Int) < 0) := by omega
      have hnd : decide ((s : Int) + (p.n : Int) < 0) = false := by simp; omega
      clear hp
      go_wp2_with fail
      go_roundw
      case rel => exact ⟨k + 1, by omega, by go_num, by rw [HN.out]; go_num, (by first | rfl | trivial)⟩
      case measure => simp [intOf]; omega
    · have hkd : decide (k < m) = false := by simpa using hlt
      obtain rfl : k = m := by omega
      go_wp2_with fail
      refine (grow_any s _ (by omega)).mono ?_
      rintro e w1 ⟨A1, c1, rfl, hO1, b1⟩
      have HO1 := Lib.hid hO1
      have HB1 := Lib.hid b1
      clear hO1 b1 hs0 hs24 ht
      go_wp2_with fail
      go_loopw [6, 27] (fun v i wr => ∃ (q c3 : Nat) (A3 : Option Addr) (ts : List Dp), q ≤ k ∧ i = .int .i64 (q : Nat) ∧ Hid (joinP (ps.take q) = ts) ∧ v = .slice A3 ts.length c3 ∧ Hid (wr.ownsRow w.heap.size 42 2 (.slice A3 ts.length c3) ts.length (flatDp ts)) ∧ Below w.heap.size w wr) (fun _ i _ => k - (intOf i).toNat)
      case atStart => exact ⟨0, c1, A1, [], Nat.zero_le _, rfl, Lib.hid rfl, rfl, HO1, HB1.out⟩
      case round =>
        clear HO1 HB1
        obtain ⟨q, c3, A3, ts, hq, rfl, HT, rfl, HO, hB⟩ := hrel
        have HB := Lib.hid hB
        clear hB
        have hq0 : (0 : Int) ≤ (q : Int) := by omega
        by_cases hlq : q < k
        · have hqi : (q : Int) < (k : Int) := by omega
          have hqd : decide (q < k) = true := by simpa using hlq
          obtain ⟨p, hp⟩ := at_lt hl hlq
          have HPS := Lib.hid (hps.out.below HB.out)
          obtain ⟨c0, hpl, hp8, hsrc⟩ := HPS.out.2 q p hp
          have hgl := hps.out.1
          have hgl2 : g < wr.heap.size := by have := HB.out.size; omega
          have htl := (tot_le hps.out q (by omega))
          rw [HT.out] at htl
          have htl8 : ts.length ≤ 24 := by omega
          have HN := Lib.hid (show joinP (ps.take (q + 1)) = ts ++ p.ts by rw [take_snoc hp, joinP_app, HT.out])
          have HFL := Lib.hid (show (flatDp p.ts).length = p.n * 2 by rw [flatDp_len, hpl])
          have hbs := HB.out.size
          have HPL := Lib.hid hpl
          clear hp htl hpl
          rcases hsrc with ⟨ad, hA, hab, hcs⟩ | ⟨hA, hn0, hc0⟩
          · rw [hA] at c0
            have HCS := Lib.hid hcs
            clear hcs hA
            go_wp2_with (at_builtin; refine wpList_append_own _ rfl _ _ 24 rfl w.heap.size 42 i0 (.agg #[.int .i64 0, .int .i64 0]) 2 16 Try.underlying24 hi hz0 hz1 hz2 rfl (by decide) _ _ _ rfl HO.out ad p.n p.c (flatDp p.ts) rfl HFL.out HCS.out (flatDp_one p.ts) (by unfold maxLen; omega) (by omega) (by first | exact hbs | omega | (simp; omega)) ?_; intro v' w9 hown' hgrow _; obtain ⟨A9, c9, rfl⟩ := row_slice hown')
            rw [← flatDp_append, ← HPL.out, ← List.length_append] at hown'
            go_roundw
            case rel => exact ⟨q + 1, c9, A9, ts ++ p.ts, by omega, by go_num, HN, by rw [List.length_append, HPL.out], Lib.hid hown', HB.out.grown hgrow (by omega) (fun r er => (HO.out.lt r er).1)⟩
            case measure => simp [intOf]; omega
          · rw [hA, hn0, hc0] at c0
            have HPE := Lib.hid (show p.ts = [] from List.length_eq_zero_iff.1 (by rw [HPL.out, hn0]))
            clear hA hn0 hc0
            go_wp2_with (at_builtin; refine wpList_append_own_none rfl _ _ 24 rfl w.heap.size 42 i0 2 Try.underlying24 hi _ _ _ rfl HO.out rfl ?_)
            go_roundw
            case rel => exact ⟨q + 1, c3, A3, ts, by omega, by go_num, Lib.hid (by rw [HN.out, HPE.out, List.append_nil]), rfl, HO, HB.out⟩
            case measure => simp [intOf]; omega
        · have hqd : decide (q < k) = false := by simpa using hlq
          obtain rfl : q = k := by omega
          have HE := Lib.hid (show joinP ps = ts by rw [← HT.out, List.take_of_length_le (by omega)])
          go_wp2_with fail
          go_ret
          exact ⟨A3, c3, by rw [HE.out]; rfl, by rw [HE.out]; exact HO.out, HB.out⟩
end Go.Proofs.Ytiimegmaokfpgaa.va
