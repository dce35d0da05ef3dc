/-
  The program's tools: the zero and the scale that fit.
  Conditions: the checks lie in one block below the call's own.
-/
import Derived.Test.YtekbiapgbhaibaaTiB
import Derived.Test.YtekbiapgbhaibaaTlM
namespace Go.Proofs.Ytekbiapgbhaibaa.tli
open Go.RowKit
open reads tl tlp
set_option linter.unusedVariables false
set_option linter.unusedSimpArgs false

theorem wv_nn {x : Tl} {cs : List Ck} (h : 0 ≤ (wv x cs).1) : 0 ≤ (wv x cs).2 := by
  unfold wv at h ⊢
  split
  · rename_i q; rw [if_pos q] at h; exact wst_nn x cs _ h
  · rename_i q; rw [if_neg q] at h; simp at h
/-- the two searches tell the same -/
theorem fb_fit {mk : Int → Tl} {cs : List Ck} {z0 : Int} {ts : List Tl} {n : Nat} (hts : ∀ i, i < n → ts[i]? = some (mk (z0 + (i : Int)))) (hck : ∀ i, i < n → cksOk (mk (z0 + (i : Int))) cs = true) :
    ∀ k, k ≤ n → (fbN cs ts k).1 = (fitN mk cs z0 k).1 ∧ (fbN cs ts k).2.2 = decide (0 ≤ (fitN mk cs z0 k).2) ∧ (0 ≤ (fitN mk cs z0 k).2 → (fbN cs ts k).2.1 = (fitN mk cs z0 k).2)
  | 0, _ => by simp [fbN, fitN]
  | k + 1, hk => by
    obtain ⟨h1, h2, h3⟩ := fb_fit hts hck k (by omega)
    rw [fbN_step (hts k (by omega))]
    have e : fitN mk cs z0 (k + 1) = fitStep mk cs (fitN mk cs z0 k) (z0 + k) := rfl
    rw [e]
    unfold fbStep fitStep
    have hw : wok (mk (z0 + (k : Int))) cs = decide (0 ≤ (wv (mk (z0 + (k : Int))) cs).1) := by unfold wok; rw [hck k (by omega)]; rfl
    by_cases c : 0 ≤ (wv (mk (z0 + (k : Int))) cs).1 ∧ ((fitN mk cs z0 k).2 < 0 ∨ (wv (mk (z0 + (k : Int))) cs).2 < (fitN mk cs z0 k).2)
    · have cc : wok (mk (z0 + (k : Int))) cs = true ∧ ((fbN cs ts k).2.2 = false ∨ (wv (mk (z0 + (k : Int))) cs).2 < (fbN cs ts k).2.1) := by
        refine ⟨by rw [hw]; simpa using c.1, ?_⟩
        rcases Int.lt_or_le (fitN mk cs z0 k).2 0 with q | q
        · exact .inl (by rw [h2]; simpa using q)
        · rw [h3 q]
          rcases c.2 with c2 | c2
          · omega
          · exact .inr c2
      rw [if_pos c, if_pos cc]
      have := wv_nn c.1
      exact ⟨rfl, by simpa using this, fun _ => rfl⟩
    · have cc : ¬ (wok (mk (z0 + (k : Int))) cs = true ∧ ((fbN cs ts k).2.2 = false ∨ (wv (mk (z0 + (k : Int))) cs).2 < (fbN cs ts k).2.1)) := by
        rintro ⟨a, b⟩
        rw [hw] at a
        refine c ⟨by simpa using a, ?_⟩
        rw [h2] at b
        rcases b with b | b
        · exact .inl (by simpa using b)
        · rcases Int.lt_or_le (fitN mk cs z0 k).2 0 with q | q
          · exact .inl q
          · rw [h3 q] at b; exact .inr b
      rw [if_neg c, if_neg cc]
      exact ⟨h1, h2, h3⟩
theorem fb_none {cs : List Ck} {ts : List Tl} (h : ∀ t, t ∈ ts → cksOk t cs = false) : ∀ k, fbN cs ts k = (⟨0, 0, 0, 0⟩, 0, false)
  | 0 => rfl
  | k + 1 => by
    have e := fb_none h k
    unfold fbN
    cases q : ts[k]? with
    | none => exact e
    | some y =>
      have : cksOk y cs = false := h y (List.mem_of_getElem? q)
      show fbStep cs (fbN cs ts k) y = _
      unfold fbStep wok
      rw [this, e]
      simp

def zs_ (x : Tl) (k : Nat) : List Tl := (List.range k).map fun i : Nat => mkZ x (-50 + (i : Int))
def ss_ (x : Tl) (k : Nat) : List Tl := (List.range k).map fun i : Nat => mkS x (900 + (i : Int))
theorem zs_len (x : Tl) (k : Nat) : (zs_ x k).length = k := by simp [zs_]
theorem ss_len (x : Tl) (k : Nat) : (ss_ x k).length = k := by simp [ss_]
theorem zs_succ (x : Tl) (k : Nat) : zs_ x (k + 1) = zs_ x k ++ [mkZ x (-50 + (k : Int))] := by simp [zs_, List.range_succ]
theorem ss_succ (x : Tl) (k : Nat) : ss_ x (k + 1) = ss_ x k ++ [mkS x (900 + (k : Int))] := by simp [ss_, List.range_succ]
theorem okT_mk {x : Tl} (h : okT x = true) {z : Int} (h0 : -50 ≤ z) (h1 : z ≤ 50) : okT (mkZ x z) = true := by
  unfold okT at h ⊢
  simp only [Bool.and_eq_true] at h ⊢
  obtain ⟨⟨⟨⟨a, b⟩, c⟩, d⟩, e⟩ := h
  exact ⟨⟨⟨⟨a, b⟩, btw_mk h0 h1⟩, d⟩, e⟩
theorem okT_mkS {x : Tl} (h : okT x = true) (hk : x.kind = 0) {z : Int} (h0 : 900 ≤ z) (h1 : z ≤ 1100) : okT (mkS x z) = true := by
  unfold okT at h ⊢
  simp only [Bool.and_eq_true] at h ⊢
  obtain ⟨⟨⟨⟨a, b⟩, c⟩, d⟩, e⟩ := h
  exact ⟨⟨⟨⟨a, by rw [hk] at b; exact b⟩, c⟩, btw_mk h0 h1⟩, by simp [mkS]⟩
theorem cks_mk {x : Tl} (cs : List Ck) (h : okT x = true) {z : Int} (h0 : -50 ≤ z) (h1 : z ≤ 50) : cksOk (mkZ x z) cs = cksOk x cs := by
  unfold cksOk; rw [okT_mk h h0 h1, h]; rfl
theorem cks_mkS {x : Tl} (cs : List Ck) (h : okT x = true) (hk : x.kind = 0) {z : Int} (h0 : 900 ≤ z) (h1 : z ≤ 1100) : cksOk (mkS x z) cs = cksOk x cs := by
  unfold cksOk; rw [okT_mkS h hk h0 h1, h]
  congr 1
  congr 1
  funext c
  unfold ckOk
  rw [hk]; rfl
theorem fitZ_is {x : Tl} (cs : List Ck) (h : okT x = true) : ((fbN cs (zs_ x 101) 101).1, (fbN cs (zs_ x 101) 101).2.2) = fitZ x cs := by
  cases hc : cksOk x cs
  · rw [fb_none (fun t ht => ?_)]
    · unfold fitZ; rw [if_neg (by rw [hc]; simp)]
    · simp only [zs_, List.mem_map, List.mem_range] at ht
      obtain ⟨i, hi, rfl⟩ := ht
      rw [cks_mk cs h (by omega) (by omega)]; exact hc
  · obtain ⟨a, b, -⟩ := fb_fit (mk := mkZ x) (cs := cs) (z0 := -50) (ts := zs_ x 101) (n := 101) (fun i hi => by simp [zs_, hi]) (fun i hi => by rw [cks_mk cs h (by omega) (by omega)]; exact hc) 101 (Nat.le_refl _)
    unfold fitZ
    rw [if_pos hc, a, b]
theorem fitS_is {x : Tl} (cs : List Ck) (h : okT x = true) (hk : x.kind = 0) : ((fbN cs (ss_ x 201) 201).1, (fbN cs (ss_ x 201) 201).2.2) = fitS x cs := by
  cases hc : cksOk x cs
  · rw [fb_none (fun t ht => ?_)]
    · unfold fitS; rw [if_neg (by rw [hc]; simp)]
    · simp only [ss_, List.mem_map, List.mem_range] at ht
      obtain ⟨i, hi, rfl⟩ := ht
      rw [cks_mkS cs h hk (by omega) (by omega)]; exact hc
  · obtain ⟨a, b, -⟩ := fb_fit (mk := mkS x) (cs := cs) (z0 := 900) (ts := ss_ x 201) (n := 201) (fun i hi => by simp [ss_, hi]) (fun i hi => by rw [cks_mkS cs h hk (by omega) (by omega)]; exact hc) 201 (Nat.le_refl _)
    unfold fitS
    rw [if_pos ⟨hc, hk⟩, a, b]

theorem grown_refl_ (u : World) (r : Option Nat) : u.grownBy u r := ⟨rfl, rfl, rfl, Nat.le_refl _, fun _ _ _ => rfl⟩
/-- candidates in the making -/
def CN (w : World) (T : TypeId) (y : Tl) (v : Value) (ts : List Tl) (u : World) : Prop :=
  Blk u w.heap.size T #[.int .i64 y.id, .int .i64 y.kind, .int .i64 y.zero, .int .i64 y.scale] ∧ Blk u (w.heap.size + 1) T #[.int .i64 0, .int .i64 0, .int .i64 0, .int .i64 0] ∧ u.ownsRow (w.heap.size + 1 + 1) T 4 v ts.length (flatT ts) ∧ Below w.heap.size w u
section
variable {w u u' : World} {T : TypeId} {y : Tl} {v v' : Value} {ts : List Tl}
theorem CN.cells (h : CN w T y v ts u) : u.cell? ⟨w.heap.size, 0, none⟩ = some (.int .i64 y.id) ∧ u.cell? ⟨w.heap.size, 1, none⟩ = some (.int .i64 y.kind) ∧ u.cell? ⟨w.heap.size, 2, none⟩ = some (.int .i64 y.zero) ∧ u.cell? ⟨w.heap.size, 3, none⟩ = some (.int .i64 y.scale) :=
  ⟨h.1.cell 0, h.1.cell 1, h.1.cell 2, h.1.cell 3⟩
theorem CN.fro (h : CN w T y v ts u) : u.frozen? ⟨w.heap.size, 2, none⟩ = false ∧ u.frozen? ⟨w.heap.size, 3, none⟩ = false := ⟨h.1.frozen 2, h.1.frozen 3⟩
theorem CN.rcells (h : CN w T y v ts u) : u.cell? ⟨w.heap.size + 1, 0, none⟩ = some (.int .i64 0) ∧ u.cell? ⟨w.heap.size + 1, 1, none⟩ = some (.int .i64 0) ∧ u.cell? ⟨w.heap.size + 1, 2, none⟩ = some (.int .i64 0) ∧ u.cell? ⟨w.heap.size + 1, 3, none⟩ = some (.int .i64 0) :=
  ⟨h.2.1.cell 0, h.2.1.cell 1, h.2.1.cell 2, h.2.1.cell 3⟩
theorem CN.rfro (h : CN w T y v ts u) : u.frozen? ⟨w.heap.size + 1, 0, none⟩ = false ∧ u.frozen? ⟨w.heap.size + 1, 1, none⟩ = false ∧ u.frozen? ⟨w.heap.size + 1, 2, none⟩ = false ∧ u.frozen? ⟨w.heap.size + 1, 3, none⟩ = false :=
  ⟨h.2.1.frozen 0, h.2.1.frozen 1, h.2.1.frozen 2, h.2.1.frozen 3⟩
theorem CN.size (h : CN w T y v ts u) : w.heap.size + 1 < u.heap.size := h.2.1.lt
theorem CN.put (h : CN w T y v ts u) (j : Nat) (z : Int) (y' : Tl) (e : (#[.int .i64 y.id, .int .i64 y.kind, .int .i64 y.zero, .int .i64 y.scale] : Array Value).setIfInBounds j (.int .i64 z) = #[.int .i64 y'.id, .int .i64 y'.kind, .int .i64 y'.zero, .int .i64 y'.scale]) : CN w T y' v ts (u.setCell ⟨w.heap.size, j, none⟩ (.int .i64 z)) := by
  obtain ⟨h1, h2, h3, h4⟩ := h
  refine ⟨e ▸ h1.set_ j _, h2.far (by show _ ≠ _; simp) _, ?_, h4.setCell (Nat.le_refl _) _⟩
  exact h3.kept (row := some w.heap.size) (grown_setTl (grown_refl_ u _) j _) (.inr (fun q => by have := (h3.lt _ q).1; omega))
theorem CN.app (h : CN w T y v ts u) (o : Obj) {t : Tl} (ho : u'.ownsRow (w.heap.size + 1 + 1) T 4 v' (ts.length + 1) (flatT ts ++ [.int .i64 t.id, .int .i64 t.kind, .int .i64 t.zero, .int .i64 t.scale])) (hg : (u.alloc o).grownBy u' v.ownBlock) : CN w T y v' (ts ++ [t]) u' := by
  obtain ⟨h1, h2, h3, h4⟩ := h
  have hlo : ∀ g, v.ownBlock = some g → w.heap.size + 1 + 1 ≤ g := fun g e => (h3.lt g e).1
  refine ⟨(h1.alloc o).grown hg (fun e => by have := hlo _ e.symm; omega), (h2.alloc o).grown hg (fun e => by have := hlo _ e.symm; omega), ?_, (h4.alloc h4.size o).grown hg (by simp; have := h4.size; omega) (fun g e => by have := hlo g e; omega)⟩
  rw [List.length_append, List.length_singleton, flatT_app]; exact ho
theorem CN.start (w : World) (T : TypeId) (x : Tl) (h : Below ((w.alloc (.cells #[.int .i64 x.id, .int .i64 x.kind, .int .i64 x.zero, .int .i64 x.scale] T)).alloc (.cells #[.int .i64 0, .int .i64 0, .int .i64 0, .int .i64 0] T)).heap.size ((w.alloc (.cells #[.int .i64 x.id, .int .i64 x.kind, .int .i64 x.zero, .int .i64 x.scale] T)).alloc (.cells #[.int .i64 0, .int .i64 0, .int .i64 0, .int .i64 0] T)) u) :
    CN w T x (.slice (some ⟨u.heap.size, 0, none⟩) 0 0) [] (u.alloc (.cells #[] T)) := by
  have hz : w.heap.size + 1 + 1 ≤ u.heap.size := by have := h.size; simp at this; omega
  refine ⟨?_, ?_, World.ownsRow_made u #[] 0 hz (by decide) (by simp), ((((Below.refl _ _).alloc (Nat.le_refl _) _).alloc (by simp) _).trans (h.mono (by simp; omega))).alloc (by omega) _⟩
  · exact (((Blk.new w T _).alloc _).below h (by simp; omega)).alloc _
  · have k := Blk.new (w.alloc (.cells #[.int .i64 x.id, .int .i64 x.kind, .int .i64 x.zero, .int .i64 x.scale] T)) T #[.int .i64 0, .int .i64 0, .int .i64 0, .int .i64 0]
    have k2 : Blk ((w.alloc (.cells #[.int .i64 x.id, .int .i64 x.kind, .int .i64 x.zero, .int .i64 x.scale] T)).alloc (.cells #[.int .i64 0, .int .i64 0, .int .i64 0, .int .i64 0] T)) (w.heap.size + 1) T #[.int .i64 0, .int .i64 0, .int .i64 0, .int .i64 0] := by simpa using k
    exact (k2.below h (by simp)).alloc _
end
theorem firstBest_at (A C : Option Addr) (n m cap cap' : Nat) (ts : List Tl) (cs : List Ck) (r : Tl × Bool) (w : World) (hn : n ≤ 2000000) (hm : m ≤ 2000000) (hts : Hid (TlsAt w w.heap.size A n ts)) (hcs : Hid (CksAt w w.heap.size C m cs)) (hr : Hid (((fbN cs ts n).1, (fbN cs ts n).2.2) = r)) :
    Calls Try.prog 64 #[.slice A n cap, .slice C m cap'] w (TPost r w) := by
  rw [← hr.out]; exact firstBest_any A C n m cap cap' ts cs w hn hm hts hcs
theorem cks_keep {w u : World} {A : Option Addr} {n : Nat} {cs : List Ck} (h : CksAt w w.heap.size A n cs) (hb : Below w.heap.size w u) : CksAt u u.heap.size A n cs := (h.below hb).more hb.size

set_option maxHeartbeats 4000000 in
set_option maxRecDepth 100000 in
theorem fitZero_impl (x : Tl) (A : Option Addr) (n cap : Nat) (cs : List Ck) (w : World) (hn : n ≤ 2000000) (hcs : Hid (CksAt w w.heap.size A n cs)) :
    Calls Try.prog 22 #[.agg #[.int .i64 x.id, .int .i64 x.kind, .int .i64 x.zero, .int .i64 x.scale], .slice A n cap] w (TPost (fitZ x cs) w) := by
  obtain ⟨i0, hi, hz0, hz1, hz2⟩ := info_parts infoTl4
  cases hx : okT x
  · have HF := Lib.hid (show fitZ x cs = (⟨0, 0, 0, 0⟩, false) by unfold fitZ cksOk; rw [hx]; simp)
    have HX := Lib.hid hx
    clear hx
    go_enter Try.func22, Try.ntmps22
    go_wp2_with fail
    refine (isTool_is x false HX _).mono ?_
    rintro e w1 ⟨rfl, b1⟩
    obtain ⟨hc1, hf1⟩ := bcell b1
    have hz : w.heap.size + 2 ≤ w1.heap.size := by have := b1.size; simp at this; omega
    have HB := Lib.hid ((((Below.refl w.heap.size w).alloc (Nat.le_refl _) _).alloc (by simp) _).trans (b1.mono (by simp; omega)))
    clear b1
    go_wp2_with fail
    refine bodyPost_ret (v := .tuple #[.agg #[.int .i64 0, .int .i64 0, .int .i64 0, .int .i64 0], .bool false]) (by simp [results, Try.results22, go_sem, hc1]) rfl ⟨by rw [HF.out], ?_⟩
    exact (((HB.out.setCell (by simp) _).setCell (by simp) _).setCell (by simp) _).setCell (by simp) _
  · obtain ⟨r, hr⟩ : ∃ r, fitZ x cs = r := ⟨_, rfl⟩
    have HE := Lib.hid ((fitZ_is cs hx).trans hr)
    rw [hr]
    have HX := Lib.hid hx
    clear hx hr
    obtain ⟨⟨g0, g1, g2, g3⟩, g4⟩ := r
    go_enter Try.func22, Try.ntmps22
    go_wp2_with fail
    refine (isTool_is x true HX _).mono ?_
    rintro e w1 ⟨rfl, b1⟩
    have HS0 := Lib.hid (CN.start w 25 x b1)
    clear b1
    go_wp2_with fail
    go_loopw [6, 7] (fun v i wr => ∃ (k : Nat) (y : Tl) (q : Int), k ≤ 101 ∧ i = .int .i64 q ∧ q = (k : Int) - 50 ∧ y.id = x.id ∧ y.kind = x.kind ∧ y.scale = x.scale ∧ CN w 25 y v (zs_ x k) wr) (fun _ i _ => (60 - intOf i).toNat)
    case atStart => exact ⟨0, x, -50, by omega, rfl, by omega, rfl, rfl, rfl, HS0.out⟩
    case round =>
      obtain ⟨k, y, q, hk, rfl, hq, y0, y1, y2, hS⟩ := hrel
      obtain ⟨A', c, rfl⟩ := own_sl4 hS.2.2.1
      have HS := Lib.hid hS
      have HY := Lib.hid (And.intro y0 (And.intro y1 y2))
      clear hS HS0 y0 y1 y2
      by_cases hlt : q ≤ 50
      · have HU := Lib.hid (HS.out.put 2 q (mkZ x q) (by simp [mkZ, HY.out.1, HY.out.2.1, HY.out.2.2]))
        obtain ⟨c0, c1, c2, c3⟩ := HS.out.cells
        obtain ⟨f2, -⟩ := HS.out.fro
        rw [HY.out.1] at c0
        rw [HY.out.2.1] at c1
        rw [HY.out.2.2] at c3
        have HQ := Lib.hid (show q = -50 + (k : Int) by omega)
        have hq0 : -50 ≤ q := by omega
        clear hq
        go_wp2_with (at_builtin; refine wpList_append_own _ rfl _ _ 43 rfl (w.heap.size + 1 + 1) 25 i0 (.agg #[.int .i64 0, .int .i64 0, .int .i64 0, .int .i64 0]) 4 32 Try.underlying43 hi hz0 hz1 hz2 rfl (by decide) _ _ _ rfl (HU.out.2.2.1.alloc _) ⟨wr.heap.size, 0, none⟩ 1 1 [.int .i64 x.id, .int .i64 x.kind, .int .i64 q, .int .i64 x.scale] rfl rfl (World.news_of_block (alloc_at (by simp))) (by simp [Value.oneCell']) (by unfold maxLen; rw [zs_len]; omega) (by rw [zs_len]; omega) (by simp; have := HS.out.size; omega) ?_; intro v' w9 hown' hgrow _; obtain ⟨A2, c2, rfl⟩ := own_sl4 hown')
        go_roundw
        case rel => exact ⟨k + 1, mkZ x q, q + 1, by have := HQ.out; omega, rfl, by have := HQ.out; omega, rfl, rfl, rfl, by rw [zs_succ, ← HQ.out]; exact HU.out.app _ (t := mkZ x q) hown' hgrow⟩
        case measure => simp [intOf]; omega
      · obtain rfl : k = 101 := by omega
        have HT := Lib.hid (show TlsAt wr wr.heap.size A' 101 (zs_ x 101) from by have h := tls_own (show wr.ownsRow _ _ 4 (.slice A' (zs_ x 101).length c) _ _ by rw [zs_len]; exact HS.out.2.2.1); rw [zs_len] at h; exact h)
        have HC := Lib.hid (cks_keep hcs.out HS.out.2.2.2)
        have hqd : decide (q ≤ 50) = false := by simpa using hlt
        clear hq
        go_wp2_with fail
        refine (firstBest_at A' A 101 n _ cap (zs_ x 101) cs _ _ (by decide) hn HT HC HE).mono ?_
        rintro e w2 ⟨rfl, b2⟩
        obtain ⟨hc2, hf2⟩ := bcell b2
        obtain ⟨r0, r1, r2, r3⟩ := HS.out.rcells
        obtain ⟨q0, q1, q2, q3⟩ := HS.out.rfro
        have hs := HS.out.size
        have HB := Lib.hid (HS.out.2.2.2.trans (b2.mono HS.out.2.2.2.size))
        clear b2
        go_wp2_with fail
        refine bodyPost_ret (v := .tuple #[.agg #[.int .i64 g0, .int .i64 g1, .int .i64 g2, .int .i64 g3], .bool g4]) (by simp [results, Try.results22, go_sem, *]) rfl ⟨rfl, ?_⟩
        exact (((HB.out.setCell (by simp) _).setCell (by simp) _).setCell (by simp) _).setCell (by simp) _
set_option maxHeartbeats 4000000 in
set_option maxRecDepth 100000 in
theorem fitScale_impl (x : Tl) (A : Option Addr) (n cap : Nat) (cs : List Ck) (w : World) (hn : n ≤ 2000000) (hcs : Hid (CksAt w w.heap.size A n cs)) :
    Calls Try.prog 30 #[.agg #[.int .i64 x.id, .int .i64 x.kind, .int .i64 x.zero, .int .i64 x.scale], .slice A n cap] w (TPost (fitS x cs) w) := by
  obtain ⟨i0, hi, hz0, hz1, hz2⟩ := info_parts infoTl4
  cases hx : okT x
  · have HF := Lib.hid (show fitS x cs = (⟨0, 0, 0, 0⟩, false) by unfold fitS cksOk; rw [hx]; simp)
    have HX := Lib.hid hx
    clear hx
    go_enter Try.func30, Try.ntmps30
    go_wp2_with fail
    refine (isTool_is x false HX _).mono ?_
    rintro e w1 ⟨rfl, b1⟩
    obtain ⟨hc1, hf1⟩ := bcell b1
    have hz : w.heap.size + 2 ≤ w1.heap.size := by have := b1.size; simp at this; omega
    have HB := Lib.hid ((((Below.refl w.heap.size w).alloc (Nat.le_refl _) _).alloc (by simp) _).trans (b1.mono (by simp; omega)))
    clear b1
    go_wp2_with fail
    refine bodyPost_ret (v := .tuple #[.agg #[.int .i64 0, .int .i64 0, .int .i64 0, .int .i64 0], .bool false]) (by simp [results, Try.results30, go_sem, hc1]) rfl ⟨by rw [HF.out], ?_⟩
    exact (((HB.out.setCell (by simp) _).setCell (by simp) _).setCell (by simp) _).setCell (by simp) _
  by_cases k0 : x.kind = 0
  · have dk : (x.kind == 0) = true := by simpa using k0
    have dk2 : (x.kind != 0) = false := by simpa using k0
    obtain ⟨r, hr⟩ : ∃ r, fitS x cs = r := ⟨_, rfl⟩
    have HE := Lib.hid ((fitS_is cs hx k0).trans hr)
    rw [hr]
    have HX := Lib.hid hx
    have HK0 := Lib.hid k0
    clear hx hr k0
    obtain ⟨⟨g0, g1, g2, g3⟩, g4⟩ := r
    go_enter Try.func30, Try.ntmps30
    go_wp2_with fail
    refine (isTool_is x true HX _).mono ?_
    rintro e w1 ⟨rfl, b1⟩
    obtain ⟨hc1, hf1⟩ := bcell b1
    have HS0 := Lib.hid (CN.start w 25 x b1)
    clear b1
    go_wp2_with fail
    clear hc1 hf1 dk dk2
    go_loopw [6, 7] (fun v i wr => ∃ (k : Nat) (y : Tl) (q : Int), k ≤ 201 ∧ i = .int .i64 q ∧ q = (k : Int) + 900 ∧ y.id = x.id ∧ y.kind = 0 ∧ y.zero = x.zero ∧ CN w 25 y v (ss_ x k) wr) (fun _ i _ => (1200 - intOf i).toNat)
    case atStart => exact ⟨0, x, 900, by omega, rfl, by omega, rfl, HK0.out, rfl, HS0.out⟩
    case round =>
      obtain ⟨k, y, q, hk, rfl, hq, y0, y1, y2, hS⟩ := hrel
      obtain ⟨A', c, rfl⟩ := own_sl4 hS.2.2.1
      have HS := Lib.hid hS
      have HY := Lib.hid (And.intro y0 (And.intro y1 y2))
      clear hS HS0 y0 y1 y2
      by_cases hlt : q ≤ 1100
      · have HU := Lib.hid (HS.out.put 3 q (mkS x q) (by simp [mkS, HY.out.1, HY.out.2.1, HY.out.2.2]))
        obtain ⟨c0, c1, c2, c3⟩ := HS.out.cells
        obtain ⟨-, f2⟩ := HS.out.fro
        rw [HY.out.1] at c0
        rw [HY.out.2.1] at c1
        rw [HY.out.2.2] at c2
        have HQ := Lib.hid (show q = 900 + (k : Int) by omega)
        have hq0 : 900 ≤ q := by omega
        clear hq
        go_wp2_with (at_builtin; refine wpList_append_own _ rfl _ _ 43 rfl (w.heap.size + 1 + 1) 25 i0 (.agg #[.int .i64 0, .int .i64 0, .int .i64 0, .int .i64 0]) 4 32 Try.underlying43 hi hz0 hz1 hz2 rfl (by decide) _ _ _ rfl (HU.out.2.2.1.alloc _) ⟨wr.heap.size, 0, none⟩ 1 1 [.int .i64 x.id, .int .i64 0, .int .i64 x.zero, .int .i64 q] rfl rfl (World.news_of_block (alloc_at (by simp))) (by simp [Value.oneCell']) (by unfold maxLen; rw [ss_len]; omega) (by rw [ss_len]; omega) (by simp; have := HS.out.size; omega) ?_; intro v' w9 hown' hgrow _; obtain ⟨A2, c2, rfl⟩ := own_sl4 hown')
        go_roundw
        case rel => exact ⟨k + 1, mkS x q, q + 1, by have := HQ.out; omega, rfl, by have := HQ.out; omega, rfl, rfl, rfl, by rw [ss_succ, ← HQ.out]; exact HU.out.app _ (t := mkS x q) hown' hgrow⟩
        case measure => simp [intOf]; omega
      · obtain rfl : k = 201 := by omega
        have HT := Lib.hid (show TlsAt wr wr.heap.size A' 201 (ss_ x 201) from by have h := tls_own (show wr.ownsRow _ _ 4 (.slice A' (ss_ x 201).length c) _ _ by rw [ss_len]; exact HS.out.2.2.1); rw [ss_len] at h; exact h)
        have HC := Lib.hid (cks_keep hcs.out HS.out.2.2.2)
        have hqd : decide (q ≤ 1100) = false := by simpa using hlt
        clear hq
        go_wp2_with fail
        refine (firstBest_at A' A 201 n _ cap (ss_ x 201) cs _ _ (by decide) hn HT HC HE).mono ?_
        rintro e w2 ⟨rfl, b2⟩
        obtain ⟨hc2, hf2⟩ := bcell b2
        obtain ⟨r0, r1, r2, r3⟩ := HS.out.rcells
        obtain ⟨q0, q1, q2, q3⟩ := HS.out.rfro
        have hs := HS.out.size
        have HB := Lib.hid (HS.out.2.2.2.trans (b2.mono HS.out.2.2.2.size))
        clear b2
        go_wp2_with fail
        refine bodyPost_ret (v := .tuple #[.agg #[.int .i64 g0, .int .i64 g1, .int .i64 g2, .int .i64 g3], .bool g4]) (by simp [results, Try.results30, go_sem, *]) rfl ⟨rfl, ?_⟩
        exact (((HB.out.setCell (by simp) _).setCell (by simp) _).setCell (by simp) _).setCell (by simp) _
  · have HF := Lib.hid (show fitS x cs = (⟨0, 0, 0, 0⟩, false) by unfold fitS; rw [if_neg (fun q => k0 q.2)])
    have dk2 : (x.kind != 0) = true := by simpa using k0
    have HX := Lib.hid hx
    clear hx k0
    go_enter Try.func30, Try.ntmps30
    go_wp2_with fail
    refine (isTool_is x true HX _).mono ?_
    rintro e w1 ⟨rfl, b1⟩
    obtain ⟨hc1, hf1⟩ := bcell b1
    have hz : w.heap.size + 2 ≤ w1.heap.size := by have := b1.size; simp at this; omega
    have HB := Lib.hid ((((Below.refl w.heap.size w).alloc (Nat.le_refl _) _).alloc (by simp) _).trans (b1.mono (by simp; omega)))
    clear b1
    go_wp2_with fail
    refine bodyPost_ret (v := .tuple #[.agg #[.int .i64 0, .int .i64 0, .int .i64 0, .int .i64 0], .bool false]) (by simp [results, Try.results30, go_sem, hc1]) rfl ⟨by rw [HF.out], ?_⟩
    exact (((HB.out.setCell (by simp) _).setCell (by simp) _).setCell (by simp) _).setCell (by simp) _
end Go.Proofs.Ytekbiapgbhaibaa.tli
