/-
  The drawn lists of tools.
  Conditions: the code has at most 65536 bytes.
-/
import Derived.Test.YtekbiapgbhaibaaTlT
import Derived.Test.YtekbiapgbhaibaaTlK
namespace Go.Proofs.Ytekbiapgbhaibaa.tlp
open Go.RowKit
open reads curs curd tl
set_option linter.unusedVariables false
set_option linter.unusedSimpArgs false

def flatT (ts : List Tl) : List Value := ts.flatMap fun t => [.int .i64 t.id, .int .i64 t.kind, .int .i64 t.zero, .int .i64 t.scale]
theorem flatT_app (ts : List Tl) (t : Tl) : flatT (ts ++ [t]) = flatT ts ++ [.int .i64 t.id, .int .i64 t.kind, .int .i64 t.zero, .int .i64 t.scale] := by simp [flatT]
theorem flatT_at : ∀ (ts : List Tl) (k : Nat) (t : Tl), ts[k]? = some t → (flatT ts)[k * 4]? = some (.int .i64 t.id) ∧ (flatT ts)[k * 4 + 1]? = some (.int .i64 t.kind) ∧ (flatT ts)[k * 4 + 2]? = some (.int .i64 t.zero) ∧ (flatT ts)[k * 4 + 3]? = some (.int .i64 t.scale)
  | [], k, t, h => by simp at h
  | d :: ts, 0, t, h => by
    simp at h
    subst h
    exact ⟨rfl, rfl, rfl, rfl⟩
  | d :: ts, k + 1, t, h => by
    obtain ⟨h1, h2, h3, h4⟩ := flatT_at ts k t (by simpa using h)
    have e : flatT (d :: ts) = .int .i64 d.id :: .int .i64 d.kind :: .int .i64 d.zero :: .int .i64 d.scale :: flatT ts := rfl
    rw [e, show (k + 1) * 4 = k * 4 + 1 + 1 + 1 + 1 by omega, show k * 4 + 1 + 1 + 1 + 1 + 1 = (k * 4 + 1) + 1 + 1 + 1 + 1 by omega, show k * 4 + 1 + 1 + 1 + 1 + 2 = (k * 4 + 2) + 1 + 1 + 1 + 1 by omega, show k * 4 + 1 + 1 + 1 + 1 + 3 = (k * 4 + 3) + 1 + 1 + 1 + 1 by omega]
    exact ⟨by simpa using h1, by simpa using h2, by simpa using h3, by simpa using h4⟩
theorem tls_own {w : World} {base c : Nat} {e : TypeId} {A : Option Addr} {ts : List Tl} (h : w.ownsRow base e 4 (.slice A ts.length c) ts.length (flatT ts)) : TlsAt w w.heap.size A ts.length ts := by
  refine ⟨rfl, fun k d hd => ?_⟩
  have hk : k < ts.length := (List.getElem?_eq_some_iff.1 hd).1
  obtain ⟨g, cap, hv, -, hg⟩ := h.form (by omega)
  injection hv with hA _ hc
  subst hA hc
  obtain ⟨f1, f2, f3, f4⟩ := flatT_at ts k d hd
  exact ⟨g, rfl, hg, (h.cellAt (k * 4) (by omega)).trans f1, (h.cellAt (k * 4 + 1) (by omega)).trans f2, (h.cellAt (k * 4 + 2) (by omega)).trans f3, (h.cellAt (k * 4 + 3) (by omega)).trans f4⟩
theorem own_sl4 {w : World} {base n : Nat} {e : TypeId} {v : Value} {xs : List Value} (h : w.ownsRow base e 4 v n xs) : ∃ A c, v = .slice A n c := by
  rcases h.2 with ⟨rfl, rfl⟩ | ⟨g, cap, cur, rfl, _⟩
  · exact ⟨_, _, rfl⟩
  · exact ⟨_, _, rfl⟩
theorem infoTl4 : (Try.prog.info? 25).map (fun i => (i.zero, i.size, i.bytes)) = some (some (.agg #[.int .i64 0, .int .i64 0, .int .i64 0, .int .i64 0]), 4, 32) := by kernel_rfl

/-- tools in the making -/
def AS (w : World) (k : Nat) (A : Option Addr) (n cap : Nat) (zs : List UInt8) (v : Value) (ts : List Tl) (u : World) : Prop :=
  Cur u w.heap.size w.heap.size k A n cap zs ∧ Below w.heap.size w u ∧ u.ownsRow (w.heap.size + 1) 25 4 v ts.length (flatT ts)
section
variable {w u u' : World} {k k' : Nat} {A : Option Addr} {n cap : Nat} {zs : List UInt8} {v v' : Value} {ts : List Tl}
theorem AS.step (h : AS w k A n cap zs v ts u) (hC : Cur u' w.heap.size w.heap.size k' A n cap zs) (hg : u.grownBy u' (some w.heap.size)) : AS w k' A n cap zs v ts u' := by
  obtain ⟨h1, h2, h3⟩ := h
  exact ⟨hC, h2.grown hg h2.size (fun g e => by injection e with e; omega), h3.kept hg (.inr (fun e => by have := (h3.lt _ e).1; omega))⟩
theorem AS.alloc (h : AS w k A n cap zs v ts u) (o : Obj) : AS w k A n cap zs v ts (u.alloc o) := ⟨cur_alloc h.1 h.2.1.size o, h.2.1.alloc h.2.1.size o, h.2.2.alloc o⟩
theorem AS.more (h : AS w k A n cap zs v ts u) (hk : k ≤ k') : AS w k' A n cap zs v ts u := ⟨cur_more h.1 k' hk, h.2⟩
theorem AS.app (h : AS w k A n cap zs v ts u) {t : Tl} (ho : u'.ownsRow (w.heap.size + 1) 25 4 v' (ts.length + 1) (flatT ts ++ [.int .i64 t.id, .int .i64 t.kind, .int .i64 t.zero, .int .i64 t.scale])) (hg : u.grownBy u' v.ownBlock) : AS w k A n cap zs v' (ts ++ [t]) u' := by
  obtain ⟨h1, h2, h3⟩ := h
  have hlo : ∀ g, v.ownBlock = some g → w.heap.size + 1 ≤ g := fun g e => (h3.lt g e).1
  obtain ⟨c1, c2, c3, pos, sd, c4, c5, c6, c7⟩ := h1
  refine ⟨⟨c1, c2.grown hg h2.size (fun g e => by have := hlo g e; omega), c3, pos, sd, c4, c5, c6, c7.grown hg (fun e => by have := hlo _ e.symm; omega)⟩, h2.grown hg h2.size (fun g e => by have := hlo g e; omega), ?_⟩
  rw [List.length_append, List.length_singleton, flatT_app]; exact ho
end
/-- drawn tools -/
def ATPost (w : World) (e : Ending) (w' : World) : Prop := ∃ (v : Value) (ts : List Tl), e = .returned v ∧ w'.ownsRow (w.heap.size + 1) 25 4 v ts.length (flatT ts) ∧ ts.length ≤ 12 ∧ Below w.heap.size w w'

set_option maxHeartbeats 8000000 in
set_option maxRecDepth 100000 in
theorem tools_draw (A : Option Addr) (n cap : Nat) (zs : List UInt8) (w : World) (h : Hid (curs.Code w A n zs)) : Calls Try.prog 69 #[.slice A n cap] w (ATPost w) := by
  obtain ⟨i0, hi, hz0, hz1, hz2⟩ := info_parts infoTl4
  have HS0 := Lib.hid (show AS w 0 A n cap zs (.slice (some ⟨w.heap.size + 1, 0, none⟩) 0 0) [] ((w.alloc (.cells #[.slice A n cap, .int .i64 0, .int .u64 0] 75)).alloc (.cells #[] 25)) by
    refine ⟨cur_alloc (cur_new cap h.out) (by simp) _, ((Below.refl _ _).alloc (Nat.le_refl _) _).alloc (by simp) _, ?_⟩
    have k := World.ownsRow_made (base := w.heap.size + 1) (e := 25) (size := 4) (w.alloc (.cells #[.slice A n cap, .int .i64 0, .int .u64 0] 75)) #[] 0 (by simp) (by decide) (by simp)
    have e : (w.alloc (.cells #[.slice A n cap, .int .i64 0, .int .u64 0] 75)).heap.size = w.heap.size + 1 := by simp
    rw [e] at k
    exact k)
  go_enter Try.func69, Try.ntmps69
  go_wp2_with fail
  refine (pick_any w.heap.size w.heap.size 0 A n cap zs _ 7 (by omega) HS0.out.1 (by decide) (by decide)).mono ?_
  rintro e w1 ⟨m, rfl, hm, hC, hg⟩
  have hm6 : m ≤ 6 := hm
  have HS1 := Lib.hid (HS0.out.step hC hg)
  clear hC hg HS0 hm h
  go_wp2_with fail
  go_loopw [4, 5, 6] (fun v d i wr => ∃ (j q : Nat) (id : Int) (ts : List Tl), j + q = m ∧ i = .int .i64 q ∧ d = .int .i64 id ∧ 0 ≤ id ∧ id ≤ 3 * j ∧ Hid (ts.length = j) ∧ AS w (1 + 10 * j) A n cap zs v ts wr) (fun _ _ i _ => (intOf i).toNat)
  case atStart => exact ⟨0, m, 0, [], by omega, rfl, rfl, by decide, by decide, Lib.hid rfl, HS1.out⟩
  case round =>
    obtain ⟨j, q, id, ts, hjq, rfl, rfl, id0, id1, HL, hS⟩ := hrel
    have HS := Lib.hid hS
    have hsz := hS.2.1.size
    clear hS HS1
    by_cases hq : 0 < q
    · have hqd : decide ((0 : Int) < (q : Int)) = true := by simp; omega
      have hqd2 : decide (0 < q) = true := by simp; omega
      go_wp2_with fail
      refine (pick_any w.heap.size w.heap.size (1 + 10 * j) A n cap zs _ 3 (by omega) HS.out.1 (by decide) (by decide)).mono ?_
      rintro e w2 ⟨r, rfl, hr, hC, hg⟩
      have hr2 : r ≤ 2 := hr
      have HS2 := Lib.hid (HS.out.step hC hg)
      clear hC hg hr HS
      go_wp2_with fail
      refine (pick_any w.heap.size w.heap.size (1 + 10 * j + 1) A n cap zs _ 60 (by omega) HS2.out.1 (by decide) (by decide)).mono ?_
      rintro e w3 ⟨p, rfl, hp, hC, hg⟩
      have hp2 : p ≤ 59 := hp
      have HS3 := Lib.hid (HS2.out.step hC hg)
      clear hC hg hp HS2
      go_wp2_with fail
      refine (tool_any w.heap.size w.heap.size (1 + 10 * j + 1 + 1) A n cap zs _ _ (by omega) (Lib.hid HS3.out.1)).mono ?_
      rintro e w4 ⟨t, rfl, hC, hg⟩
      have HS4 := Lib.hid (HS3.out.step hC hg)
      have hs4 := HS4.out.2.1.size
      clear hC hg HS3
      go_wp2_with (at_builtin; refine wpList_append_own _ rfl _ _ 43 rfl (w.heap.size + 1) 25 i0 (.agg #[.int .i64 0, .int .i64 0, .int .i64 0, .int .i64 0]) 4 32 Try.underlying43 hi hz0 hz1 hz2 rfl (by decide) _ _ _ rfl (HS4.out.2.2.alloc _) ⟨w4.heap.size, 0, none⟩ 1 1 [.int .i64 t.id, .int .i64 t.kind, .int .i64 t.zero, .int .i64 t.scale] rfl rfl (World.news_of_block (alloc_at rfl)) (by simp [Value.oneCell']) (by unfold maxLen; rw [HL.out]; omega) (by rw [HL.out]; omega) (by simp; omega) ?_; intro v' w9 hown' hgrow _; obtain ⟨A2, c2, rfl⟩ := own_sl4 hown')
      go_roundw
      case rel => exact ⟨j + 1, q - 1, _, ts ++ [t], by omega, by first | go_num | (congr 1; omega), rfl, by omega, by omega, Lib.hid (by rw [List.length_append, HL.out]; rfl), ((HS4.out.alloc _).app (t := t) hown' hgrow).more (by omega)⟩
      case measure => simp [intOf]; omega
    · obtain rfl : q = 0 := by omega
      have hqd : decide ((0 : Int) < ((0 : Nat) : Int)) = false := by simp
      have htl : ts.length ≤ 6 := by rw [HL.out]; omega
      go_wp2_with fail
      refine (one_any w.heap.size w.heap.size (1 + 10 * j) A n cap zs _ 24 (by omega) HS.out.1 (by decide) (by decide)).mono ?_
      rintro e w5 ⟨t1, rfl, hC, hg⟩
      have HS5 := Lib.hid (HS.out.step hC hg)
      clear hC hg HS
      cases t1
      · go_wp2_with fail
        go_ret
        exact ⟨_, ts, rfl, HS5.out.2.2, by omega, HS5.out.2.1⟩
      · have HS6 := Lib.hid (HS5.out.more (show 1 + 10 * j + 1 ≤ 100 + ts.length by omega))
        clear HS5
        go_wp2_with fail
        go_loopw [4, 5] (fun v d wr => ∃ (id : Int) (us : List Tl), d = .int .i64 id ∧ 0 ≤ id ∧ id ≤ 20 + us.length ∧ us.length ≤ 12 ∧ AS w (100 + us.length) A n cap zs v us wr) (fun v _ _ => 20 - lenOf v)
        case atStart => exact ⟨id, ts, rfl, id0, by omega, by omega, HS6.out⟩
        case round =>
          obtain ⟨id, us, rfl, e0, e1, hu, hS⟩ := hrel
          obtain ⟨A', c, hv⟩ := own_sl4 hS.2.2
          subst hv
          have HS8 := Lib.hid hS
          obtain ⟨L, hL⟩ : ∃ L, us.length = L := ⟨_, rfl⟩
          have HLL := Lib.hid hL
          rw [hL] at HS8 hu e1 ⊢
          clear hS hL HL
          have HL := HLL
          go_wp2_with fail
          refine (pick_any w.heap.size w.heap.size (100 + L) A n cap zs _ 2 (by omega) HS8.out.1 (by decide) (by decide)).mono ?_
          rintro e w8 ⟨p, rfl, hp, hC, hg⟩
          have hp1 : p ≤ 1 := hp
          have HS9 := Lib.hid (HS8.out.step hC hg)
          have hs9 := HS9.out.2.1.size
          clear hC hg hp HS8
          by_cases hlt : L < 8 + p
          · have hd1 : decide ((L : Int) < 8 + (p : Int)) = true := by simp; omega
            go_wp2_with (at_builtin; refine wpList_append_own _ rfl _ _ 43 rfl (w.heap.size + 1) 25 i0 (.agg #[.int .i64 0, .int .i64 0, .int .i64 0, .int .i64 0]) 4 32 Try.underlying43 hi hz0 hz1 hz2 rfl (by decide) _ _ _ rfl (HS9.out.2.2.alloc _) ⟨w8.heap.size, 0, none⟩ 1 1 [.int .i64 (id + 1), .int .i64 0, .int .i64 0, .int .i64 1000] rfl rfl (World.news_of_block (alloc_at rfl)) (by simp [Value.oneCell']) (by unfold maxLen; rw [HL.out]; omega) (by rw [HL.out]; omega) (by simp; omega) ?_; intro v' w9 hown' hgrow _; obtain ⟨A2, c2, rfl⟩ := own_sl4 hown')
            go_roundw
            case rel => exact ⟨id + 1, us ++ [⟨id + 1, 0, 0, 1000⟩], rfl, by omega, by rw [List.length_append, HLL.out]; simp; omega, by rw [List.length_append, HLL.out]; simp; omega, ((HS9.out.alloc _).app (t := ⟨id + 1, 0, 0, 1000⟩) hown' hgrow).more (by rw [List.length_append, HLL.out]; simp; omega)⟩
            case measure => simp [lenOf, HLL.out]; omega
          · have hd1 : decide ((L : Int) < 8 + (p : Int)) = false := by simp; omega
            go_wp2_with fail
            go_ret
            exact ⟨_, us, rfl, by have := HS9.out.2.2; rw [HLL.out] at this ⊢; exact this, by rw [HLL.out]; exact hu, HS9.out.2.1⟩
end Go.Proofs.Ytekbiapgbhaibaa.tlp
