/-
  All teams among some people, by the program's search.
  Conditions: the people's skills are in bounds; not more than 100000 teams.
-/
import Derived.Test.YtidofckanadkpaaPiH
import Derived.Deep.RegionHeld3
import Derived.Deep.DeepCutAuto
namespace Go.Proofs.Ytidofckanadkpaa.pi5
open Go.RowKit
open reads base inn ty rowi psk psl psm psn pso psp pq tab
set_option linter.unusedVariables false
set_option linter.unusedSimpArgs false
set_option maxRecDepth 100000

/-- only rows of one type were written -/
def Keeps (S : TypeId) (w w' : World) : Prop := w'.os = w.os ∧ w'.tape = w.tape ∧ w'.output = w.output ∧ w.heap.size ≤ w'.heap.size ∧ ∀ k, k < w.heap.size → (∀ cs r, w.heap[k]? ≠ some (.cells cs S r)) → w'.heap[k]? = w.heap[k]?
section
variable {S : TypeId} {w w' w'' : World}
theorem Keeps.refl (S : TypeId) (w : World) : Keeps S w w := ⟨rfl, rfl, rfl, Nat.le_refl _, fun _ _ _ => rfl⟩
theorem Keeps.trans (h : Keeps S w w') (k : Keeps S w' w'') : Keeps S w w'' :=
  ⟨k.1.trans h.1, k.2.1.trans h.2.1, k.2.2.1.trans h.2.2.1, Nat.le_trans h.2.2.2.1 k.2.2.2.1, fun i hi hne => by
    have e := h.2.2.2.2 i hi hne
    exact (k.2.2.2.2 i (Nat.lt_of_lt_of_le hi h.2.2.2.1) (fun cs r => by rw [e]; exact hne cs r)).trans e⟩
theorem Keeps.of_below (h : Below w.heap.size w w') : Keeps S w w' := ⟨h.os, h.tape, h.output, h.size, fun k hk _ => h.block k hk⟩
theorem Keeps.of_grown {b n size : Nat} {v : Value} {us : List Value} (ho : w.ownsRow b S size v n us) (h : w.grownBy w' v.ownBlock) : Keeps S w w' :=
  ⟨h.os, h.tape, h.output, h.size, fun k hk hne => h.block k hk (fun e => by
    rcases ho.2 with ⟨rfl, _⟩ | ⟨g, cap, cur, rfl, _, hg, _⟩
    · simp [Value.ownBlock] at e
    · have : k = g := by simpa [Value.ownBlock] using e
      subst this
      exact hne _ _ hg)⟩
theorem Keeps.own (h : Keeps S w w') {b n size : Nat} {e : TypeId} {v : Value} {us : List Value} (ho : w.ownsRow b e size v n us) (hne : e ≠ S) : w'.ownsRow b e size v n us := by
  refine ⟨ho.1, ?_⟩
  rcases ho.2 with q | ⟨g, cap, cur, h1, h2, hg, rest⟩
  · exact .inl q
  · refine .inr ⟨g, cap, cur, h1, h2, ?_, rest⟩
    rw [h.2.2.2.2 g (Array.getElem?_eq_some_iff.1 hg).1 (fun cs r e => by rw [hg] at e; injection e with e; injection e with _ e2; exact hne e2)]
    exact hg
end
/-- people in memory, from some cell of a block on -/
def PsO (w : World) (B : Nat) (A : Option Addr) (n : Nat) (ts : List Ps) : Prop :=
  ts.length = n ∧ ∀ k t, ts[k]? = some t → ∃ g o, A = some ⟨g, o, none⟩ ∧ g < B ∧ w.cell? ⟨g, o + k * 4, none⟩ = some (.int .i64 t.id) ∧ w.cell? ⟨g, o + k * 4 + 1, none⟩ = some (.string t.name) ∧ w.cell? ⟨g, o + k * 4 + 2, none⟩ = some (.int .i64 t.skills) ∧ w.cell? ⟨g, o + k * 4 + 3, none⟩ = some (.int .i64 t.trips)
theorem PsO.below {w w' : World} {B : Nat} {A : Option Addr} {n : Nat} {ts : List Ps} (h : PsO w B A n ts) (hb : Below B w w') : PsO w' B A n ts :=
  ⟨h.1, fun k t ht => by
    obtain ⟨g, o, e, hg, h0, h1, h2, h3⟩ := h.2 k t ht
    exact ⟨g, o, e, hg, (hb.cell (p := ⟨g, o + k * 4, none⟩) hg).trans h0, (hb.cell (p := ⟨g, o + k * 4 + 1, none⟩) hg).trans h1, (hb.cell (p := ⟨g, o + k * 4 + 2, none⟩) hg).trans h2, (hb.cell (p := ⟨g, o + k * 4 + 3, none⟩) hg).trans h3⟩⟩
theorem PsO.of_at {w : World} {B : Nat} {A : Option Addr} {n : Nat} {ts : List Ps} (h : PsAt w B A n ts) : PsO w B A n ts :=
  ⟨h.1, fun k t ht => by
    obtain ⟨g, e, hg, h0, h1, h2, h3⟩ := h.2 k t ht
    exact ⟨g, 0, e, hg, by simpa using h0, by simpa using h1, by simpa using h2, by simpa using h3⟩⟩
/-- the rest of a list -/
theorem PsO.drop {w : World} {B g o n : Nat} {ts : List Ps} (h : PsO w B (some ⟨g, o, none⟩) n ts) (k : Nat) : PsO w B (some ⟨g, o + k * 4, none⟩) (n - k) (ts.drop k) :=
  ⟨by rw [List.length_drop, h.1], fun i t ht => by
    rw [List.getElem?_drop] at ht
    obtain ⟨g', o', e, hg, h0, h1, h2, h3⟩ := h.2 (k + i) t ht
    injection e with e
    injection e with e1 e2
    subst e1 e2
    have e5 : o + k * 4 + i * 4 = o + (k + i) * 4 := by omega
    exact ⟨g, o + k * 4, rfl, hg, by rw [e5]; exact h0, by rw [e5]; exact h1, by rw [e5]; exact h2, by rw [e5]; exact h3⟩⟩
theorem PsO.nil {w : World} {B : Nat} {A : Option Addr} : PsO w B A 0 [] := ⟨rfl, fun k t h => by simp at h⟩
theorem infoPP : (Try.prog.info? 24).map (fun i => (i.zero, i.size, i.bytes)) = some (some (.slice none 0 0), 1, 24) := by kernel_rfl
theorem sx_step {w w' : World} {B : Nat} {W0 : World} {X : Nat} {t : Ps} (h : psg.SX w B W0 X t) (hB : B ≤ W0.heap.size) (b : Below w.heap.size w w') : psg.SX w' B W0 X t := ⟨h.1.below b h.1.lt, h.2.trans (b.mono (Nat.le_trans hB h.2.size))⟩
theorem sx_five {w : World} {B : Nat} {W0 : World} {X : Nat} {t : Ps} (h : psg.SX w B W0 X t) : w.cell? ⟨X, 0, none⟩ = some (.int .i64 t.id) ∧ w.cell? ⟨X, 1, none⟩ = some (.string t.name) ∧ w.cell? ⟨X, 2, none⟩ = some (.int .i64 t.skills) ∧ w.cell? ⟨X, 3, none⟩ = some (.int .i64 t.trips) ∧ psg.SX w B W0 X t := ⟨h.1.cell 0, h.1.cell 1, h.1.cell 2, h.1.cell 3, h⟩
theorem sx_grown {w w' : World} {B : Nat} {W0 : World} {X : Nat} {t : Ps} {row : Option Nat} (h : psg.SX w B W0 X t) (hg : w.grownBy w' row) (hB : B ≤ w.heap.size) (hr : ∀ g, row = some g → B ≤ g) (hX : X < B) : psg.SX w' B W0 X t :=
  ⟨h.1.grown hg (fun e => by have := hr X e.symm; omega), h.2.grown hg hB hr⟩
/-- people one after the other: whose skills are in bounds -/
theorem okS_app {s : List Ps} {t : Ps} (h : pt.okS s) (ht : 0 ≤ t.skills ∧ t.skills ≤ 15) : pt.okS (s ++ [t]) := fun u hu => by
  rcases List.mem_append.1 hu with q | q
  · exact h u q
  · rw [List.mem_singleton.1 q]; exact ht
/-- what the search answers: the lists that were there, and more -/
def ATPost (b0 : Nat) (R : List (List Ps)) (w : World) (e : Ending) (w' : World) : Prop :=
  ∃ v vs, e = .returned v ∧ w'.ownsRow b0 24 1 v R.length vs ∧ TabV 41 4 flatPs w' b0 vs R ∧ Keeps 24 w w' ∧ Below b0 w w'
/-- what lies open in the search -/
def AT (w : World) (b0 : Nat) (W0 : World) (v : Value) (vs : List Value) (tss : List (List Ps)) (vm : Value) (p : Nat) (s : List Ps) : Prop :=
  w.ownsRow b0 24 1 v tss.length vs ∧ TabV 41 4 flatPs w b0 vs tss ∧ w.ownsRow b0 41 4 vm p (flatPs s) ∧ Keeps 24 W0 w ∧ Below b0 W0 w ∧ b0 ≤ W0.heap.size
theorem AT.step {w w' : World} {b0 : Nat} {W0 : World} {v : Value} {vs : List Value} {tss : List (List Ps)} {vm : Value} {p : Nat} {s : List Ps} (h : AT w b0 W0 v vs tss vm p s) (b : Below w.heap.size w w') : AT w' b0 W0 v vs tss vm p s :=
  ⟨row_below h.1 b, h.2.1.below b, row_below h.2.2.1 b, h.2.2.2.1.trans (Keeps.of_below b), h.2.2.2.2.1.trans (b.mono (Nat.le_trans h.2.2.2.2.2 h.2.2.2.2.1.size)), h.2.2.2.2.2⟩
theorem AT.alloc {w : World} {b0 : Nat} {W0 : World} {v : Value} {vs : List Value} {tss : List (List Ps)} {vm : Value} {p : Nat} {s : List Ps} (h : AT w b0 W0 v vs tss vm p s) (o : Obj) : AT (w.alloc o) b0 W0 v vs tss vm p s := h.step ((Below.refl _ _).alloc (Nat.le_refl _) o)
theorem AT.b0 {w : World} {b0 : Nat} {W0 : World} {v : Value} {vs : List Value} {tss : List (List Ps)} {vm : Value} {p : Nat} {s : List Ps} (h : AT w b0 W0 v vs tss vm p s) : b0 ≤ w.heap.size := Nat.le_trans h.2.2.2.2.2 h.2.2.2.2.1.size
/-- the members are a team: their list is put behind the others -/
theorem AT.put {w w' : World} {b0 : Nat} {W0 : World} {v v' : Value} {vs : List Value} {tss : List (List Ps)} {vm : Value} {p : Nat} {s : List Ps} (h : AT w b0 W0 v vs tss vm p s) (hp : s.length = p) (hown : w'.ownsRow b0 24 1 v' (tss.length + 1) (vs ++ [vm])) (hg : w.grownBy w' v.ownBlock) :
    AT w' b0 W0 v' (vs ++ [vm]) (tss ++ [s]) vm p s := by
  have hm := h.2.2.1.kept hg (own_ne h.2.2.1 h.1 (by decide))
  have ht := h.2.1.grown h.1 hg (by decide)
  refine ⟨by simpa using hown, ht.snoc (by rw [hp]; exact hm), hm, h.2.2.2.1.trans (Keeps.of_grown h.1 hg), ?_, h.2.2.2.2.2⟩
  exact h.2.2.2.2.1.grown hg h.b0 (fun j ej => (h.1.lt j ej).1)
/-- a call that wrote only the list of lists -/
theorem AT.call {w w' : World} {b0 : Nat} {W0 : World} {v v' : Value} {vs vs' : List Value} {tss R : List (List Ps)} {vm : Value} {p : Nat} {s : List Ps} (h : AT w b0 W0 v vs tss vm p s) (ho : w'.ownsRow b0 24 1 v' R.length vs') (ht : TabV 41 4 flatPs w' b0 vs' R) (hk : Keeps 24 w w') (hb : Below b0 w w') : AT w' b0 W0 v' vs' R vm p s :=
  ⟨ho, ht, hk.own h.2.2.1 (by decide), h.2.2.2.1.trans hk, h.2.2.2.2.1.trans hb, h.2.2.2.2.2⟩
/-- the members with one more: a list of its own -/
def MorePost (p : Nat) (s : List Ps) (t : Ps) (W : World) (v : Value) (w' : World) : Prop :=
  ∃ A9 c9, v = .slice A9 (p + 1) c9 ∧ w'.ownsRow W.heap.size 41 4 (.slice A9 (p + 1) c9) (p + 1) (flatPs (s ++ [t])) ∧ Below W.heap.size W w'
set_option maxHeartbeats 16000000 in
theorem app_any : ∀ (q : Nat) (rs s : List Ps) (tss R : List (List Ps)) (vs : List Value) (At : Option Addr) (ct : Nat) (Am : Option Addr) (cm p : Nat) (Ao : Option Addr) (co b0 : Nat) (w : World),
    Hid (rs.length = q) → q ≤ 10 → q ≤ co → Hid (s.length = p) → p ≤ 5 → Hid (pt.okS s) → Hid (pt.okS rs) → Hid (tss ++ pt.dfs pt.teamS 5 s rs = R) → R.length ≤ 100000 →
    Hid (AT w b0 w (.slice At tss.length ct) vs tss (.slice Am p cm) p s) → Hid (PsO w b0 Ao q rs) →
    Calls Try.prog 90 #[.slice At tss.length ct, .slice Am p cm, .slice Ao q co] w (ATPost b0 R w) := by
  intro q
  induction q using Nat.strongRecOn with
  | ind q ih =>
  have IH := Lib.hid ih
  clear ih
  intro rs s tss R vs At ct Am cm p Ao co b0 w HQ hq10 hqc HPL hp5 HKS HKR HDF hR HA HO
  obtain ⟨i0, hi, hz0, hz1, hz2⟩ := info_parts infoPP
  obtain ⟨j0, kj, kz0, kz1, kz2⟩ := info_parts infoPs
  obtain ⟨tl, HTL⟩ : ∃ tl, Hid (tss.length = tl) := ⟨_, Lib.hid rfl⟩
  obtain ⟨tm, HTM⟩ : ∃ t, Hid (pt.teamS s = t) := ⟨_, Lib.hid rfl⟩
  have hPS := own_Ps HPL.out HA.out.2.2.1
  have HPS := Lib.hid hPS
  have htR : tl + 1 ≤ 100001 := by
    rw [← HTL.out]; have e := congrArg List.length HDF.out; rw [List.length_append] at e; omega
  rw [HTL.out]
  clear hPS
  go_enter Try.func90, Try.ntmps90
  go_wp2_with fail
  refine (areTeam_is Am p cm s tm _ (by omega) HKS HPS HTM).mono ?_
  rintro e w1 ⟨rfl, b1⟩
  have HA1 := Lib.hid (HA.out.step b1)
  have HOB := Lib.hid (show ∀ v, Below b0 w v → PsO v b0 Ao q rs from fun v hv => HO.out.below hv)
  clear b1 HA HO
  obtain ⟨T1, HT1⟩ : ∃ T1, Hid (tss ++ (if tm then [s] else []) = T1) := ⟨_, Lib.hid rfl⟩
  obtain ⟨m1, HM1⟩ : ∃ m1, Hid (T1.length = m1) := ⟨_, Lib.hid rfl⟩
  have HD0 := Lib.hid (show T1 ++ (if p = 5 then [] else pt.dfsL pt.teamS 5 s rs) = R by rw [← HT1.out, ← HDF.out, ← HPL.out]; unfold pt.dfs; rw [HTM.out, List.append_assoc])
  go_upto_if 11 with fail
  go_cut [0] (fun v wx => ∃ (A1 : Option Addr) (c1 : Nat) (vs1 : List Value), v = .slice A1 m1 c1 ∧ AT wx b0 w v vs1 T1 (.slice Am p cm) p s)
  case first =>
    as_aux_lemma =>
      cases tm
      · obtain rfl : tss = T1 := by rw [← HT1.out]; simp
        obtain rfl : tl = m1 := by rw [← HTL.out, HM1.out]
        go_wp2_with fail
        go_meet
        case rel => exact ⟨At, ct, vs, rfl, by have := HA1.out; rw [HTL.out] at this; exact this⟩
      · have HT2 := Lib.hid (show tss ++ [s] = T1 by rw [← HT1.out]; rfl)
        obtain rfl : m1 = tl + 1 := by rw [← HM1.out, ← HT2.out, List.length_append, HTL.out]; rfl
        have HOT := Lib.hid (show w1.ownsRow b0 24 1 (.slice At tl ct) tl vs by have := HA1.out.1; rwa [HTL.out] at this)
        have hb0 := HA1.out.b0
        go_wp2_with (at_builtin; refine wpList_append_own _ rfl _ _ 66 rfl b0 24 i0 (.slice none 0 0) 1 24 Try.underlying66 hi hz0 hz1 hz2 rfl (by decide) _ _ _ rfl (HOT.out.alloc _) ⟨w1.heap.size, 0, none⟩ 1 1 [.slice Am p cm] rfl rfl (cell_one_new _ _ _) (by simp [Value.oneCell']) (by unfold maxLen; omega) (by omega) (by simp; omega) ?_; intro v' w9 hown' hgrow _)
        obtain ⟨A9, c9, rfl⟩ := row_slice hown'
        go_meet
        case rel =>
          refine ⟨A9, c9, vs ++ [.slice Am p cm], rfl, ?_⟩
          have := (HA1.out.alloc (.cells #[.slice Am p cm] 24)).put (v' := .slice A9 (tl + 1) c9) (w' := w9) HPL.out (by rw [HTL.out]; exact hown') (by rw [HTL.out]; exact hgrow)
          rw [HT2.out] at this
          exact this
  case rest =>
  obtain ⟨A1, c1, vs1, rfl, hX⟩ := hcut
  have HAX := Lib.hid hX
  clear hX HA1
  by_cases hp : p = 5
  · subst hp
    have HF := Lib.hid (show T1 = R by have := HD0.out; rwa [if_pos rfl, List.append_nil] at this)
    go_wp2_with fail
    go_ret
    exact ⟨.slice A1 m1 c1, vs1, rfl, by rw [← HF.out]; exact HAX.out.1, by rw [← HF.out]; exact HAX.out.2.1, HAX.out.2.2.2.1, HAX.out.2.2.2.2.1⟩
  have hpd : ((p : Int) == 5) = false := by simp; omega
  have hpd2 : (p == 5) = false := by simpa using hp
  have hpd3 : decide (p = 5) = false := by simpa using hp
  have HD1 := Lib.hid (show T1 ++ pt.dfsL pt.teamS 5 s rs = R by have := HD0.out; rwa [if_neg hp] at this)
  have hp4 : p ≤ 4 := by omega
  clear hp
  go_wp2_with fail
  go_loopw [0, 22] (fun u0 i wr => ∃ (k n1 c1 : Nat) (A1 : Option Addr) (vs1 : List Value) (ts1 : List (List Ps)), k ≤ q ∧ i = .int .i64 k ∧ u0 = .slice A1 n1 c1 ∧ Hid (ts1.length = n1) ∧ Hid (ts1 ++ pt.dfsL pt.teamS 5 s (rs.drop k) = R) ∧ AT wr b0 w (.slice A1 n1 c1) vs1 ts1 (.slice Am p cm) p s) (fun _ i _ => q - (intOf i).toNat)
  case atStart => exact ⟨0, _, _, _, vs1, T1, Nat.zero_le _, rfl, rfl, HM1, Lib.hid (by rw [List.drop_zero]; exact HD1.out), HAX.out⟩
  case round =>
    obtain ⟨k, n1, c2, A2, vs2, ts1, hk, rfl, rfl, HN1, HD, hS⟩ := hrel
    have HS := Lib.hid hS
    clear hS HAX
    have hk0 : 0 ≤ (k : Int) := by omega
    by_cases hlt : k < q
    · have hki : (k : Int) < (q : Int) := by omega
      have hkd : decide (k < q) = true := by simpa using hlt
      obtain ⟨t, htk⟩ := at_lt HQ.out hlt
      have HPO := Lib.hid (HOB.out _ HS.out.2.2.2.2.1)
      obtain ⟨g, o, rfl, hg, h0, h1, h2, h3⟩ := HPO.out.2 k t htk
      have htok := HKR.out t (List.mem_of_getElem? htk)
      have HTO := Lib.hid htok
      have HDR := Lib.hid (show rs.drop k = t :: rs.drop (k + 1) by obtain ⟨hk', e⟩ := List.getElem?_eq_some_iff.1 htk; rw [List.drop_eq_getElem_cons hk', e])
      have HD2 := Lib.hid (show ts1 ++ pt.dfs pt.teamS 5 (s ++ [t]) (rs.drop (k + 1)) ++ pt.dfsL pt.teamS 5 s (rs.drop (k + 1)) = R by rw [← HD.out, HDR.out, pt.dfsL_cons, List.append_assoc])
      clear htok htk
      go_upto_region 8 with fail
      obtain ⟨X, HX⟩ : ∃ X, Hid (wr.heap.size = X) := ⟨_, Lib.hid rfl⟩
      obtain ⟨W1, HW1, HAW, HBX⟩ : ∃ W1, Hid (wr.alloc (.cells #[.int .i64 t.id, .string t.name, .int .i64 t.skills, .int .i64 t.trips] 41) = W1) ∧ Hid (AT W1 b0 w (.slice A2 n1 c2) vs2 ts1 (.slice Am p cm) p s) ∧ Hid (Blk W1 wr.heap.size 41 #[.int .i64 t.id, .string t.name, .int .i64 t.skills, .int .i64 t.trips]) := ⟨_, Lib.hid rfl, Lib.hid (HS.out.alloc _), Lib.hid (Blk.new _ _ _)⟩
      rw [HX.out] at HBX
      rw [HW1.out, HX.out]
      have HSX := Lib.hid (show psg.SX W1 W1.heap.size W1 X t from ⟨HBX.out, Below.refl _ _⟩)
      have hb1 := HAW.out.b0
      have hXlt := HBX.out.lt
      clear h0 h1 h2 h3 HW1
      go_cut [9] (fun v wx => MorePost p s t W1 v wx)
      case first =>
        as_aux_lemma =>
          refine wp_region_held_drew (S := (fun w' => w'.cell? ⟨X, 0, none⟩ = some (.int .i64 t.id) ∧ w'.cell? ⟨X, 1, none⟩ = some (.string t.name) ∧ w'.cell? ⟨X, 2, none⟩ = some (.int .i64 t.skills) ∧ w'.cell? ⟨X, 3, none⟩ = some (.int .i64 t.trips) ∧ psg.SX w' W1.heap.size W1 X t)) (by kernel_rfl) ?_ (fun hHeld => ?_)
          · exact sx_five HSX.out.drew
          refine' wpAnyH_take (i := 0) (v := ?v0) rfl (by kernel_rfl) (by kernel_rfl) (by kernel_rfl) (fun _ _ _ h => h) (Or.inl ⟨by rfl, ?hy0⟩) (by assumption) ?rest0
          case hy0 => (intro w hSw; (try dsimp only at hSw); go_simp; try (with_reducible rfl))
          simp only [Act.put, List.getElem_toArray, List.getElem_cons_succ, List.getElem_cons_zero, List.setIfInBounds_toArray, List.set_cons_zero, List.set_cons_succ]
          refine' wpAnyH_take (i := 2) (v := ?v2) rfl (by kernel_rfl) (by kernel_rfl) (by kernel_rfl) (fun _ _ _ h => h) (Or.inl ⟨by rfl, ?hy2⟩) (by assumption) ?rest2
          case hy2 => (intro w hSw; (try dsimp only at hSw); go_simp; try (with_reducible rfl))
          simp only [Act.put, List.getElem_toArray, List.getElem_cons_succ, List.getElem_cons_zero, List.setIfInBounds_toArray, List.set_cons_zero, List.set_cons_succ]
          refine wpAnyH_ready (rs := [1, 3]) (by kernel_rfl) (by simp) ?_
          refine AllReadyH.cons rfl (fun K hK => ?_) (AllReadyH.cons rfl (fun K hK => ?_) AllReadyH.nil)
          · go_simp
            refine (clone_people b0 p (.slice Am p cm) s _ (by omega) HPL (Lib.hid (row_below HAW.out.2.2.1 hHeld.2.2.2.2.2))).mono ?_
            rintro e w2 ⟨v2, rfl, ho2, b2⟩
            rw [HPL.out] at ho2
            obtain ⟨A4, c4, rfl⟩ := row_slice ho2
            have HO2 := Lib.hid (own_mono ho2 hHeld.2.2.2.2.2.size)
            have HB2 := Lib.hid b2
            refine hK.out _ _ (sx_five (sx_step hHeld.2.2.2.2 (Nat.le_refl _) b2)) (fun hHeld1 => ?_)
            clear hK K hHeld
            have hHeld := hHeld1
            clear hHeld1
            try simp only [Act.put, List.getElem_toArray, List.getElem_cons_succ, List.getElem_cons_zero, List.setIfInBounds_toArray, List.set_cons_zero, List.set_cons_succ]
            refine wpAnyH_ready (rs := [3]) (by kernel_rfl) (by simp) ?_
            refine AllReadyH.cons rfl (fun K hK => ?_) AllReadyH.nil
            go_simp
            refine hK.out _ _ (sx_five (sx_step hHeld.2.2.2.2 (Nat.le_refl _) ((Below.refl _ _).alloc (Nat.le_refl _) _))) (fun hHeld1 => ?_)
            clear hK K hHeld
            have hHeld := hHeld1
            clear hHeld1
            try simp only [Act.put, List.getElem_toArray, List.getElem_cons_succ, List.getElem_cons_zero, List.setIfInBounds_toArray, List.set_cons_zero, List.set_cons_succ]
            refine wpAnyH_ready (rs := [4]) (by kernel_rfl) (by simp) ?_
            refine AllReadyH.cons rfl (fun K hK => ?_) AllReadyH.nil
            refine step_append_lies _ rfl _ _ 24 rfl W1.heap.size 41 j0 _ 4 40 Try.underlying24 kj kz0 kz1 kz2 rfl (by decide) (.slice A4 p c4) p (flatPs s) rfl (HO2.out.alloc _) ⟨w2.heap.size, 0, none⟩ 1 1 [.int .i64 t.id, .string t.name, .int .i64 t.skills, .int .i64 t.trips] rfl rfl (World.news_of_block (alloc_at rfl)) (by simp [Value.oneCell']) (by decide) (by unfold maxLen; omega) (by omega) hHeld.2.2.2.2.2.size _ rfl ?_
            intro g9 c9 w4 ho4 hg4 _ _
            have HO4 := Lib.hid ho4
            refine hK.out _ _ (sx_five (sx_grown hHeld.2.2.2.2 hg4 hHeld.2.2.2.2.2.size (fun j ej => (HO2.out.lt j ej).1) hXlt)) (fun hHeld1 => ?_)
            clear ho4 hg4
            clear hK K hHeld
            have hHeld := hHeld1
            clear hHeld1
            try simp only [Act.put, List.getElem_toArray, List.getElem_cons_succ, List.getElem_cons_zero, List.setIfInBounds_toArray, List.set_cons_zero, List.set_cons_succ]
            refine' wpAnyH_take (i := 5) (v := ?v5a) rfl (by kernel_rfl) (by kernel_rfl) (by kernel_rfl) (fun _ _ _ h => h) (Or.inl ⟨by rfl, ?hy5a⟩) (by assumption) ?rest5a
            case hy5a => (intro w hSw; (try dsimp only at hSw); go_simp; try (with_reducible rfl))
            simp only [Act.put, List.getElem_toArray, List.getElem_cons_succ, List.getElem_cons_zero, List.setIfInBounds_toArray, List.set_cons_zero, List.set_cons_succ]
            refine wpAnyH_done (by kernel_rfl) ?_ _
            have HS4 := Lib.hid hHeld.2.2.2.2.2
            clear hHeld
            go_wp2_with fail
            go_meet
            case rel => exact ⟨some ⟨g9, 0, none⟩, c9, rfl, by rw [flatPs_app]; exact HO4.out, HS4.out⟩
          · go_simp
            refine hK.out _ _ (sx_five (sx_step hHeld.2.2.2.2 (Nat.le_refl _) ((Below.refl _ _).alloc (Nat.le_refl _) _))) (fun hHeld1 => ?_)
            clear hK K hHeld
            have hHeld := hHeld1
            clear hHeld1
            try simp only [Act.put, List.getElem_toArray, List.getElem_cons_succ, List.getElem_cons_zero, List.setIfInBounds_toArray, List.set_cons_zero, List.set_cons_succ]
            refine wpAnyH_ready (rs := [1]) (by kernel_rfl) (by simp) ?_
            refine AllReadyH.cons rfl (fun K hK => ?_) AllReadyH.nil
            go_simp
            refine (clone_people b0 p (.slice Am p cm) s _ (by omega) HPL (Lib.hid (row_below HAW.out.2.2.1 hHeld.2.2.2.2.2))).mono ?_
            rintro e w2 ⟨v2, rfl, ho2, b2⟩
            rw [HPL.out] at ho2
            obtain ⟨A4, c4, rfl⟩ := row_slice ho2
            have HO2 := Lib.hid (own_mono ho2 hHeld.2.2.2.2.2.size)
            have HB2 := Lib.hid b2
            refine hK.out _ _ (sx_five (sx_step hHeld.2.2.2.2 (Nat.le_refl _) b2)) (fun hHeld1 => ?_)
            clear hK K hHeld
            have hHeld := hHeld1
            clear hHeld1
            try simp only [Act.put, List.getElem_toArray, List.getElem_cons_succ, List.getElem_cons_zero, List.setIfInBounds_toArray, List.set_cons_zero, List.set_cons_succ]
            refine wpAnyH_ready (rs := [4]) (by kernel_rfl) (by simp) ?_
            refine AllReadyH.cons rfl (fun K hK => ?_) AllReadyH.nil
            refine step_append_lies _ rfl _ _ 24 rfl W1.heap.size 41 j0 _ 4 40 Try.underlying24 kj kz0 kz1 kz2 rfl (by decide) (.slice A4 p c4) p (flatPs s) rfl HO2.out ⟨W1.heap.size, 0, none⟩ 1 1 [.int .i64 t.id, .string t.name, .int .i64 t.skills, .int .i64 t.trips] rfl rfl (World.news_of_block ((HB2.out.block W1.heap.size (by simp)).trans (alloc_at (by simp)))) (by simp [Value.oneCell']) (by decide) (by unfold maxLen; omega) (by omega) hHeld.2.2.2.2.2.size _ rfl ?_
            intro g9 c9 w4 ho4 hg4 _ _
            have HO4 := Lib.hid ho4
            refine hK.out _ _ (sx_five (sx_grown hHeld.2.2.2.2 hg4 hHeld.2.2.2.2.2.size (fun j ej => (HO2.out.lt j ej).1) hXlt)) (fun hHeld1 => ?_)
            clear ho4 hg4
            clear hK K hHeld
            have hHeld := hHeld1
            clear hHeld1
            try simp only [Act.put, List.getElem_toArray, List.getElem_cons_succ, List.getElem_cons_zero, List.setIfInBounds_toArray, List.set_cons_zero, List.set_cons_succ]
            refine' wpAnyH_take (i := 5) (v := ?v5b) rfl (by kernel_rfl) (by kernel_rfl) (by kernel_rfl) (fun _ _ _ h => h) (Or.inl ⟨by rfl, ?hy5b⟩) (by assumption) ?rest5b
            case hy5b => (intro w hSw; (try dsimp only at hSw); go_simp; try (with_reducible rfl))
            simp only [Act.put, List.getElem_toArray, List.getElem_cons_succ, List.getElem_cons_zero, List.setIfInBounds_toArray, List.set_cons_zero, List.set_cons_succ]
            refine wpAnyH_done (by kernel_rfl) ?_ _
            have HS4 := Lib.hid hHeld.2.2.2.2.2
            clear hHeld
            go_wp2_with fail
            go_meet
            case rel => exact ⟨some ⟨g9, 0, none⟩, c9, rfl, by rw [flatPs_app]; exact HO4.out, HS4.out⟩
      case rest =>
      obtain ⟨A9, c9, rfl, hm9, hb9⟩ := hcut
      have HA9 := Lib.hid (HAW.out.step hb9)
      have HM9 := Lib.hid (own_mono hm9 hb1)
      have HPO9 := Lib.hid (HOB.out _ HA9.out.2.2.2.2.1)
      have HPL9 := Lib.hid (show (s ++ [t]).length = p + 1 by rw [List.length_append, HPL.out]; rfl)
      have HKS9 := Lib.hid (okS_app HKS.out HTO.out)
      have HKR9 := Lib.hid (show pt.okS (rs.drop (k + 1)) from fun u hu => HKR.out u (List.mem_of_mem_drop hu))
      have HATC := Lib.hid (show AT wc b0 wc (.slice A2 ts1.length c2) vs2 ts1 (.slice A9 (p + 1) c9) (p + 1) (s ++ [t]) from ⟨by rw [HN1.out]; have := HA9.out.1; rwa [HN1.out] at this, HA9.out.2.1, HM9.out, Keeps.refl _ _, Below.refl _ _, HA9.out.b0⟩)
      have hk1 : IntKind.i64.wrap ((k : Int) + 1) = (k : Int) + 1 := IntWalk.i64_in _ (by omega)
      obtain ⟨R1, HR1⟩ : ∃ R1, Hid (ts1 ++ pt.dfs pt.teamS 5 (s ++ [t]) (rs.drop (k + 1)) = R1) := ⟨_, Lib.hid rfl⟩
      have HD3 := Lib.hid (show R1 ++ pt.dfsL pt.teamS 5 s (rs.drop (k + 1)) = R by rw [← HR1.out]; exact HD2.out)
      have hR1 : R1.length ≤ 100000 := by have e := congrArg List.length HD3.out; rw [List.length_append] at e; omega
      by_cases hc : co = k + 1
      · have HNL := Lib.hid (show rs.drop (k + 1) = [] from List.drop_eq_nil_of_le (by rw [HQ.out]; omega))
        have HPD := Lib.hid (show PsO wc b0 (some ⟨g, o, none⟩) (q - (k + 1)) (rs.drop (k + 1)) by rw [HNL.out, show q - (k + 1) = 0 by omega]; exact PsO.nil)
        have hcT : (co = k + 1) = True := by simp [hc]
        have HLD := Lib.hid (show (rs.drop (k + 1)).length = q - (k + 1) by rw [List.length_drop, HQ.out])
        have hcall := IH.out (q - (k + 1)) (by omega) (rs.drop (k + 1)) (s ++ [t]) ts1 R1 vs2 A2 c2 A9 c9 (p + 1) (some ⟨g, o, none⟩) (co - (k + 1)) b0 wc HLD (by omega) (by omega) HPL9 (by omega) HKS9 HKR9 HR1 hR1 HATC HPD
        rw [HN1.out] at hcall
        have HC := Lib.hid hcall
        clear hcall hc
        go_wp2_with fail
        refine HC.out.mono ?_
        rintro e w5 ⟨v5, vs5, rfl, ho5, ht5, hk5, hb5⟩
        obtain ⟨A5, c5, rfl⟩ := row_slice ho5
        obtain ⟨n5, HN5⟩ : ∃ n5, Hid (R1.length = n5) := ⟨_, Lib.hid rfl⟩
        have HA5 := Lib.hid (HA9.out.call ho5 ht5 hk5 hb5)
        rw [HN5.out] at HA5 ⊢
        clear ho5 ht5 hk5 hb5
        go_wp2_with fail
        go_roundw
        case rel => exact ⟨k + 1, n5, c5, A5, vs5, R1, by omega, by go_num, rfl, HN5, HD3, HA5.out⟩
        case measure => simp [intOf]; omega
      · have HPD := Lib.hid (HPO9.out.drop (k + 1))
        have HLD := Lib.hid (show (rs.drop (k + 1)).length = q - (k + 1) by rw [List.length_drop, HQ.out])
        have hcall := IH.out (q - (k + 1)) (by omega) (rs.drop (k + 1)) (s ++ [t]) ts1 R1 vs2 A2 c2 A9 c9 (p + 1) (some ⟨g, o + (k + 1) * 4, none⟩) (co - (k + 1)) b0 wc HLD (by omega) (by omega) HPL9 (by omega) HKS9 HKR9 HR1 hR1 HATC HPD
        rw [HN1.out] at hcall
        have HC := Lib.hid hcall
        clear hcall
        go_wp2_with fail
        refine HC.out.mono ?_
        rintro e w5 ⟨v5, vs5, rfl, ho5, ht5, hk5, hb5⟩
        obtain ⟨A5, c5, rfl⟩ := row_slice ho5
        obtain ⟨n5, HN5⟩ : ∃ n5, Hid (R1.length = n5) := ⟨_, Lib.hid rfl⟩
        have HA5 := Lib.hid (HA9.out.call ho5 ht5 hk5 hb5)
        rw [HN5.out] at HA5 ⊢
        clear ho5 ht5 hk5 hb5
        go_wp2_with fail
        go_roundw
        case rel => exact ⟨k + 1, n5, c5, A5, vs5, R1, by omega, by go_num, rfl, HN5, HD3, HA5.out⟩
        case measure => simp [intOf]; omega
    · have hkd : decide (k < q) = false := by simpa using hlt
      have HF := Lib.hid (show ts1 = R by have := HD.out; rwa [List.drop_of_length_le (by rw [HQ.out]; omega), pt.dfsL, List.append_nil] at this)
      clear hlt
      go_wp2_with fail
      go_ret
      exact ⟨.slice A2 n1 c2, vs2, rfl, by rw [← HF.out]; exact HS.out.1, by rw [← HF.out]; exact HS.out.2.1, HS.out.2.2.2.1, HS.out.2.2.2.2.1⟩
#print axioms app_any
end Go.Proofs.Ytidofckanadkpaa.pi5
