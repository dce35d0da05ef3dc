/-
  The drawn checks, walked.
  Conditions: the code has at most 65536 bytes.
-/
import Derived.Test.YtekbiapgbhaibaaTlR
namespace Go.Proofs.Ytekbiapgbhaibaa.tlp
open Go.RowKit
open reads curs curd tl
set_option linter.unusedVariables false
set_option linter.unusedSimpArgs false

theorem infoCk2 : (Try.prog.info? 40).map (fun i => (i.zero, i.size, i.bytes)) = some (some (.agg #[.int .i64 0, .int .i64 0]), 2, 16) := by kernel_rfl
theorem alloc_at {v : World} {g : Nat} {o : Obj} (h : v.heap.size = g) : (v.alloc o).heap[g]? = some o := by subst h; exact heap_alloc_new v o
def lenOf : Value → Nat | .slice _ n _ => n | _ => 0
theorem own_sl {w : World} {base n : Nat} {e : TypeId} {v : Value} {xs : List Value} (h : w.ownsRow base e 2 v n xs) : ∃ A c, v = .slice A n c := by
  rcases h.2 with ⟨rfl, rfl⟩ | ⟨g, cap, cur, rfl, _⟩
  · exact ⟨_, _, rfl⟩
  · exact ⟨_, _, rfl⟩
theorem own_cut {w : World} {base n g c : Nat} {e : TypeId} {xs : List Value} (h : w.ownsRow base e 2 (.slice (some ⟨g, 0, none⟩) n c) n xs) : w.ownsRow base e 2 (.slice (some ⟨g, 0, none⟩) 0 c) 0 [] := by
  refine ⟨by simp, .inr ?_⟩
  rcases h.2 with ⟨h', _⟩ | ⟨g', cap', cur, h', hb, hg, hnc, hcm, hcs, htake⟩
  · simp at h'
  · injection h' with ha _ hc
    injection ha with ha
    injection ha with ha
    subst ha hc
    exact ⟨g, c, cur, rfl, hb, hg, by omega, hcm, hcs, by simp⟩
/-- drawn checks -/
def KPost (B b k : Nat) (A : Option Addr) (n cap : Nat) (zs : List UInt8) (w : World) (e : Ending) (w' : World) : Prop :=
  ∃ (v : Value) (cs : List Ck), e = .returned v ∧ w'.ownsRow (w.heap.size + 1) 40 2 v cs.length (flat cs) ∧ cs.length ≤ 12 ∧ Cur w' B b k A n cap zs ∧ w.grownBy w' (some b)

set_option maxHeartbeats 8000000 in
set_option maxRecDepth 100000 in
theorem checks_any (B b k : Nat) (A : Option Addr) (n cap : Nat) (zs : List UInt8) (x : Tl) (w : World) (hk : k ≤ 50000) (h : Hid (Cur w B b k A n cap zs)) :
    Calls Try.prog 77 #[.pointer (some ⟨b, 0, none⟩), .agg #[.int .i64 x.id, .int .i64 x.kind, .int .i64 x.zero, .int .i64 x.scale]] w (KPost B b (k + 100) A n cap zs w) := by
  obtain ⟨i0, hi, hz0, hz1, hz2⟩ := info_parts infoCk2
  have hbl := cur_lt h.out
  have HBB := Lib.hid (show B ≤ w.heap.size by have := h.out.1; omega)
  have HS0 := Lib.hid (show CS w B b k A n cap zs x (.slice (some ⟨w.heap.size + 1, 0, none⟩) 0 0) [] ((w.alloc (.cells #[.int .i64 x.id, .int .i64 x.kind, .int .i64 x.zero, .int .i64 x.scale] 25)).alloc (.cells #[] 40)) by
    refine ⟨cur_alloc (cur_alloc h.out HBB.out _) (by have := HBB.out; simp; omega) _, (World.grownBy_alloc w _ (some b)).trans (World.grownBy_alloc _ _ (some b)), (Blk.new w _ _).alloc _, ?_, hbl, HBB.out⟩
    have k := World.ownsRow_made (base := w.heap.size + 1) (e := 40) (size := 2) (w.alloc (.cells #[.int .i64 x.id, .int .i64 x.kind, .int .i64 x.zero, .int .i64 x.scale] 25)) #[] 0 (by simp) (by decide) (by simp)
    have e : (w.alloc (.cells #[.int .i64 x.id, .int .i64 x.kind, .int .i64 x.zero, .int .i64 x.scale] 25)).heap.size = w.heap.size + 1 := by simp
    rw [e] at k
    exact k)
  go_enter Try.func77, Try.ntmps77
  go_wp2_with fail
  refine (pick_any B b k A n cap zs _ 4 (by omega) HS0.out.1 (by decide) (by decide)).mono ?_
  rintro e w1 ⟨m, rfl, hm, hC, hg⟩
  have hm3 : m ≤ 3 := hm
  have HS1 := Lib.hid (HS0.out.step hC hg)
  clear hC hg HS0 hm h
  go_wp2_with fail
  go_loopw [5, 6] (fun v i wr => ∃ (j q : Nat) (cs : List Ck), j + q = m + 1 ∧ i = .int .i64 q ∧ Hid (cs.length = j) ∧ CS w B b (k + 1 + 5 * j) A n cap zs x v cs wr) (fun _ i _ => (intOf i).toNat)
  case atStart => exact ⟨0, m + 1, [], by omega, by go_num, Lib.hid rfl, HS1.out⟩
  case round =>
    obtain ⟨j, q, cs, hjq, rfl, HL, hS⟩ := hrel
    have HS := Lib.hid hS
    have hsz := hS.size
    clear hS HS1
    by_cases hq : 0 < q
    · have hqd : decide ((0 : Int) < (q : Int)) = true := by simp; omega
      have hqd2 : decide (0 < q) = true := by simp; omega
      have xk := HS.out.xs
      go_wp2_with fail
      refine (reading3_any B b (k + 1 + 5 * j) A n cap zs x.kind _ (by omega) (Lib.hid HS.out.1)).mono ?_
      rintro e w2 ⟨r, rfl, r0, r1, hC, hg⟩
      have HS2 := Lib.hid ((HS.out.step hC hg).alloc (.cells #[.int .i64 r, .int .i64 0] 40))
      have HK2 := Lib.hid (Blk.new w2 40 #[.int .i64 r, .int .i64 0])
      have HN2 := Lib.hid (show u5.ownBlock ≠ some w2.heap.size from fun e => absurd ((HS.out.step hC hg).2.2.2.1.lt _ e).2 (Nat.lt_irrefl _))
      have hK2 : w.heap.size < w2.heap.size := (HS.out.step hC hg).size
      clear hC hg HS xk
      go_wp2_with fail
      obtain ⟨K, HKK⟩ : ∃ K, Hid (w2.heap.size = K) := ⟨_, Lib.hid rfl⟩
      obtain ⟨W3, HW3⟩ : ∃ W3, Hid (w2.alloc (.cells #[.int .i64 r, .int .i64 0] 40) = W3) := ⟨_, Lib.hid rfl⟩
      rw [HKK.out] at HK2 HN2 hK2
      rw [HW3.out] at HS2 HK2
      rw [HW3.out, HKK.out]
      clear HW3 HKK
      refine wp_region_held_drew (S := (fun w' => w'.cell? ⟨K, 0, none⟩ = some (.int .i64 r))) (by kernel_rfl) ?_ (fun hHeld => ?_)
      · exact HK2.out.drew.cell 0
      refine' wpAnyH_take (i := 0) (v := ?vr1_0) rfl (by kernel_rfl) (by kernel_rfl) (by kernel_rfl) (fun _ _ _ h => h) (Or.inl ⟨by rfl, ?hyr1_0⟩) (by assumption) ?restr1_0
      case hyr1_0 => (intro w hSw; (try dsimp only at hSw); go_simp; try (with_reducible rfl))
      simp only [Act.put, List.getElem_toArray, List.getElem_cons_succ, List.getElem_cons_zero, List.setIfInBounds_toArray, List.set_cons_zero, List.set_cons_succ]
      refine' wpAnyH_take (i := 1) (v := ?vr1_1) rfl (by kernel_rfl) (by kernel_rfl) (by kernel_rfl) (fun _ _ _ h => h) (Or.inl ⟨by rfl, ?hyr1_1⟩) (by assumption) ?restr1_1
      case hyr1_1 => (intro w hSw; (try dsimp only at hSw); go_simp; try (with_reducible rfl))
      simp only [Act.put, List.getElem_toArray, List.getElem_cons_succ, List.getElem_cons_zero, List.setIfInBounds_toArray, List.set_cons_zero, List.set_cons_succ]
      refine' wpAnyH_take (i := 2) (v := ?vr1_2) rfl (by kernel_rfl) (by kernel_rfl) (by kernel_rfl) (fun _ _ _ h => h) (Or.inl ⟨by rfl, ?hyr1_2⟩) (by assumption) ?restr1_2
      case hyr1_2 => (intro w hSw; (try dsimp only at hSw); go_simp; try (with_reducible rfl))
      simp only [Act.put, List.getElem_toArray, List.getElem_cons_succ, List.getElem_cons_zero, List.setIfInBounds_toArray, List.set_cons_zero, List.set_cons_succ]
      refine wpAnyH_ready (rs := [3]) (by kernel_rfl) (by simp) ?_
      refine AllReadyH.cons rfl (fun K hK => ?_) AllReadyH.nil
      go_simp
      refine hK.out _ _ ((HK2.out.drew.alloc _).cell 0) (fun hHeld1 => ?_)
      clear hK K hHeld
      have hHeld := hHeld1
      clear hHeld1
      try simp only [Act.put, List.getElem_toArray, List.getElem_cons_succ, List.getElem_cons_zero, List.setIfInBounds_toArray, List.set_cons_zero, List.set_cons_succ]
      refine wpAnyH_ready (rs := [4]) (by kernel_rfl) (by simp) ?_
      refine AllReadyH.cons rfl (fun K hK => ?_) AllReadyH.nil
      go_simp
      refine (among_at B b (k + 1 + 5 * j + 2) A n cap zs W3.drew _ (by rfl) 5 _ [-3, -1, 0, 1, 2] (by omega) HS2.out.drew.1 rfl (by decide) (by decide)).mono ?_
      rintro e w4 ⟨y, hy, rfl, hC, hg⟩
      have hy1 : -3 ≤ y ∧ y ≤ 2 := by simp at hy; omega
      have HS4 := Lib.hid (HS2.out.drew.step hC hg)
      have HK4 := Lib.hid (HK2.out.drew.grown hg (by intro e; injection e with e; omega))
      clear hC hg hy
      refine hK.out _ _ (HK4.out.cell 0) (fun hHeld1 => ?_)
      clear hK K hHeld
      have hHeld := hHeld1
      clear hHeld1
      try simp only [Act.put, List.getElem_toArray, List.getElem_cons_succ, List.getElem_cons_zero, List.setIfInBounds_toArray, List.set_cons_zero, List.set_cons_succ]
      obtain ⟨y0, y1⟩ := hy1
      have hsum : IntKind.i64.wrap (r + y) = r + y := IntWalk.i64_in _ (by omega)
      have k1 := HK4.out.cell 1
      have k1f := HK4.out.frozen 1
      simp at k1
      refine' wpAnyH_take (i := 5) (v := ?vr2_5) rfl (by kernel_rfl) (by kernel_rfl) (by kernel_rfl) (fun _ _ _ h => h) (Or.inl ⟨by rfl, ?hyr2_5⟩) (by assumption) ?restr2_5
      case hyr2_5 => (intro w hSw; (try dsimp only at hSw); go_simp; try (with_reducible rfl))
      simp only [Act.put, List.getElem_toArray, List.getElem_cons_succ, List.getElem_cons_zero, List.setIfInBounds_toArray, List.set_cons_zero, List.set_cons_succ]
      refine' wpAnyH_take (i := 6) (v := ?vr2_6) rfl (by kernel_rfl) (by kernel_rfl) (by kernel_rfl) (fun _ _ _ h => h) (Or.inl ⟨by rfl, ?hyr2_6⟩) (by assumption) ?restr2_6
      case hyr2_6 => (intro w hSw; (try dsimp only at hSw); go_simp; try (with_reducible rfl))
      simp only [Act.put, List.getElem_toArray, List.getElem_cons_succ, List.getElem_cons_zero, List.setIfInBounds_toArray, List.set_cons_zero, List.set_cons_succ]
      refine wpAnyH_ready (rs := [7]) (by kernel_rfl) (by simp) ?_
      refine AllReadyH.cons rfl (fun K hK => ?_) AllReadyH.nil
      go_simp
      refine hK.out _ _ (((HK4.out.set_ 1 (.int .i64 (r + y))).cell 0)) (fun hHeld1 => ?_)
      clear hK K hHeld
      have hHeld := hHeld1
      clear hHeld1
      try simp only [Act.put, List.getElem_toArray, List.getElem_cons_succ, List.getElem_cons_zero, List.setIfInBounds_toArray, List.set_cons_zero, List.set_cons_succ]
      refine wpAnyH_done (by kernel_rfl) ?_ _
      have HS5 := Lib.hid (HS4.out.far hK2 HN2.out 1 (.int .i64 (r + y)))
      have HK5 := Lib.hid (show Blk (w4.setCell ⟨K, 1, none⟩ (.int .i64 (r + y))) K 40 #[.int .i64 r, .int .i64 (r + y)] by
        have k := HK4.out.set_ 1 (.int .i64 (r + y))
        simpa using k)
      clear hHeld HS4 HK4 HS2 HK2 hsum k1 k1f
      obtain ⟨W5, HW5⟩ : ∃ W5, Hid (w4.setCell ⟨K, 1, none⟩ (.int .i64 (r + y)) = W5) := ⟨_, Lib.hid rfl⟩
      rw [HW5.out] at HS5 HK5
      rw [HW5.out]
      clear HW5
      have xk := HS5.out.xs
      have k0 := HK5.out.cell 0
      have k1 := HK5.out.cell 1
      have k1f := HK5.out.frozen 1
      simp at k0 k1
      obtain ⟨t1, H1⟩ : ∃ t, Hid (rdg x.kind (r + y) = t) := ⟨_, Lib.hid rfl⟩
      cases t1
      · go_wp2_with fail
        refine (reading_is _ _ false H1 _).mono ?_
        rintro e w' ⟨rfl, rfl⟩
        go_wp2_with fail
        refine (one_any B b (k + 1 + 5 * j + 3) A n cap zs _ 20 (by omega) HS5.out.1 (by decide) (by decide)).mono ?_
        rintro e w6 ⟨t2, rfl, hC, hg⟩
        have HS6 := Lib.hid (HS5.out.step hC hg)
        have HK6 := Lib.hid (HK5.out.grown hg (by intro e; injection e with e; omega))
        have hs6 := HS6.out.size
        clear hC hg HS5 HK5 xk k0 k1 k1f
        have k0 := HK6.out.cell 0
        have k1 := HK6.out.cell 1
        have k1f := HK6.out.frozen 1
        simp at k0 k1
        cases t2
        · have HS7 := Lib.hid (HS6.out.far hK2 HN2.out 1 (.int .i64 r))
          have hs7 := HS7.out.size
          go_wp2_with (at_builtin; refine wpList_append_own _ rfl _ _ 31 rfl (w.heap.size + 1) 40 i0 (.agg #[.int .i64 0, .int .i64 0]) 2 16 Try.underlying31 hi hz0 hz1 hz2 rfl (by decide) _ _ _ rfl (HS7.out.2.2.2.1.alloc _) ⟨w6.heap.size, 0, none⟩ 1 1 [.int .i64 (r), .int .i64 (r)] rfl rfl (World.news_of_block (alloc_at (by first | rfl | simp [World.setCell]))) (by simp [Value.oneCell']) (by unfold maxLen; rw [HL.out]; omega) (by rw [HL.out]; omega) (by simp; omega) ?_; intro v' w9 hown' hgrow _)
          go_roundw
          case rel => exact ⟨j + 1, q - 1, cs ++ [⟨r, r⟩], by omega, by first | go_num | (congr 1; omega), Lib.hid (by rw [List.length_append, HL.out]; rfl), ((HS7.out.alloc _).app (c := ⟨r, r⟩) hown' hgrow).more (by omega)⟩
          case measure => simp [intOf]; omega
        · have hs6' := HS6.out.size
          go_wp2_with (at_builtin; refine wpList_append_own _ rfl _ _ 31 rfl (w.heap.size + 1) 40 i0 (.agg #[.int .i64 0, .int .i64 0]) 2 16 Try.underlying31 hi hz0 hz1 hz2 rfl (by decide) _ _ _ rfl (HS6.out.2.2.2.1.alloc _) ⟨w6.heap.size, 0, none⟩ 1 1 [.int .i64 (r), .int .i64 (r + y)] rfl rfl (World.news_of_block (alloc_at (by first | rfl | simp [World.setCell]))) (by simp [Value.oneCell']) (by unfold maxLen; rw [HL.out]; omega) (by rw [HL.out]; omega) (by simp; omega) ?_; intro v' w9 hown' hgrow _)
          go_roundw
          case rel => exact ⟨j + 1, q - 1, cs ++ [⟨r, r + y⟩], by omega, by first | go_num | (congr 1; omega), Lib.hid (by rw [List.length_append, HL.out]; rfl), ((HS6.out.alloc _).app (c := ⟨r, r + y⟩) hown' hgrow).more (by omega)⟩
          case measure => simp [intOf]; omega
      · go_wp2_with fail
        refine (reading_is _ _ true H1 _).mono ?_
        rintro e w' ⟨rfl, rfl⟩
        have hs5 := HS5.out.size
        go_wp2_with (at_builtin; refine wpList_append_own _ rfl _ _ 31 rfl (w.heap.size + 1) 40 i0 (.agg #[.int .i64 0, .int .i64 0]) 2 16 Try.underlying31 hi hz0 hz1 hz2 rfl (by decide) _ _ _ rfl (HS5.out.2.2.2.1.alloc _) ⟨W5.heap.size, 0, none⟩ 1 1 [.int .i64 (r), .int .i64 (r + y)] rfl rfl (World.news_of_block (alloc_at (by first | rfl | simp [World.setCell]))) (by simp [Value.oneCell']) (by unfold maxLen; rw [HL.out]; omega) (by rw [HL.out]; omega) (by simp; omega) ?_; intro v' w9 hown' hgrow _)
        go_roundw
        case rel => exact ⟨j + 1, q - 1, cs ++ [⟨r, r + y⟩], by omega, by first | go_num | (congr 1; omega), Lib.hid (by rw [List.length_append, HL.out]; rfl), ((HS5.out.alloc _).app (c := ⟨r, r + y⟩) hown' hgrow).more (by omega)⟩
        case measure => simp [intOf]; omega
    · obtain rfl : q = 0 := by omega
      have hqd : decide ((0 : Int) < ((0 : Nat) : Int)) = false := by simp
      go_wp2_with fail
      refine (pick_any B b (k + 1 + 5 * j) A n cap zs _ 40 (by omega) HS.out.1 (by decide) (by decide)).mono ?_
      rintro e w7 ⟨p, rfl, hp, hC, hg⟩
      have HS7 := Lib.hid (HS.out.step hC hg)
      clear hC hg hp HS
      have hcl : cs.length ≤ 4 := by rw [HL.out]; omega
      have hcl1 : 0 < cs.length := by rw [HL.out]; omega
      by_cases p0 : p = 0
      · subst p0
        obtain ⟨g, c, rfl, -, -⟩ := HS7.out.2.2.2.1.form hcl1
        have HO := Lib.hid (own_cut HS7.out.2.2.2.1)
        go_wp2_with fail
        go_ret
        exact ⟨_, [], rfl, HO.out, by simp, cur_more HS7.out.1 _ (by omega), HS7.out.2.1⟩
      by_cases p1 : p = 1
      · subst p1
        have HS8 := Lib.hid (HS7.out.more (show k + 1 + 5 * j + 1 ≤ k + 30 + cs.length by omega))
        clear HS7
        go_wp2_with fail
        go_loopw [5] (fun v wr => ∃ ds : List Ck, ds.length ≤ 12 ∧ CS w B b (k + 30 + ds.length) A n cap zs x v ds wr) (fun v _ => 20 - lenOf v)
        case atStart => exact ⟨cs, by omega, HS8.out⟩
        case round =>
          obtain ⟨ds, hd, hS⟩ := hrel
          obtain ⟨A', c, hv⟩ := own_sl hS.2.2.2.1
          subst hv
          have HS8 := Lib.hid hS
          obtain ⟨L, hL⟩ : ∃ L, ds.length = L := ⟨_, rfl⟩
          have HLL := Lib.hid hL
          rw [hL] at HS8 hd ⊢
          clear hS hL
          go_wp2_with fail
          refine (pick_any B b (k + 30 + L) A n cap zs _ 2 (by omega) HS8.out.1 (by decide) (by decide)).mono ?_
          rintro e w8 ⟨p, rfl, hp, hC, hg⟩
          have hp1 : p ≤ 1 := hp
          have HS9 := Lib.hid (HS8.out.step hC hg)
          have hs9 := HS9.out.size
          clear hC hg hp HS8
          by_cases hlt : L < 10 + p
          · have hd1 : decide ((L : Int) < 10 + (p : Int)) = true := by simp; omega
            go_wp2_with (at_builtin; refine wpList_append_own _ rfl _ _ 31 rfl (w.heap.size + 1) 40 i0 (.agg #[.int .i64 0, .int .i64 0]) 2 16 Try.underlying31 hi hz0 hz1 hz2 rfl (by decide) _ _ _ rfl (HS9.out.2.2.2.1.alloc _) ⟨w8.heap.size, 0, none⟩ 1 1 [.int .i64 50, .int .i64 51] rfl rfl (World.news_of_block (alloc_at (by first | rfl | simp [World.setCell]))) (by simp [Value.oneCell']) (by unfold maxLen; rw [HLL.out]; omega) (by rw [HLL.out]; omega) (by simp; omega) ?_; intro v' w9 hown' hgrow _; obtain ⟨A2, c2, rfl⟩ := own_sl hown')
            go_roundw
            case rel => exact ⟨ds ++ [⟨50, 51⟩], by rw [List.length_append, HLL.out]; simp; omega, ((HS9.out.alloc _).app (c := ⟨50, 51⟩) hown' hgrow).more (by rw [List.length_append, HLL.out]; simp; omega)⟩
            case measure => simp [lenOf, HLL.out]; omega
          · have hd1 : decide ((L : Int) < 10 + (p : Int)) = false := by simp; omega
            go_wp2_with fail
            go_ret
            exact ⟨_, ds, rfl, by rw [HLL.out]; exact (by have := HS9.out.2.2.2.1; rwa [HLL.out] at this), by rw [HLL.out]; exact hd, cur_more HS9.out.1 _ (by omega), HS9.out.2.1⟩
      · have z0 : ((p : Int) == 0) = false := by simp; omega
        have z1 : ((p : Int) == 1) = false := by simp; omega
        go_wp2_with fail
        go_ret
        exact ⟨_, cs, rfl, HS7.out.2.2.2.1, by omega, cur_more HS7.out.1 _ (by omega), HS7.out.2.1⟩
end Go.Proofs.Ytekbiapgbhaibaa.tlp
