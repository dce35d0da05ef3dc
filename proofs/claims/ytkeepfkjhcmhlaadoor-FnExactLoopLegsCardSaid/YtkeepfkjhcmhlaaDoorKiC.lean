/-
  The exits of all stations, by the program.
  Conditions: the legs are valid and lie in one block.
-/
import Derived.Test.YtkeepfkjhcmhlaaDoorKiB
import Derived.Test.YtkeepfkjhcmhlaaDoorLgA
namespace Go.Proofs.YtkeepfkjhcmhlaaDoor.lpi
open Go.RowKit
open reads base ty lg rowi hs nt lp
set_option linter.unusedVariables false
set_option linter.unusedSimpArgs false

theorem infoEx : (Tryd.prog.info? 121).map (fun i => (i.zero, i.size, i.bytes)) = some (some (.agg #[.int .i64 0, .int .i64 0]), 2, 16) := by kernel_rfl
theorem infoExs : (Tryd.prog.info? 119).map (fun i => (i.zero, i.size, i.bytes)) = some (some (.slice none 0 0), 1, 24) := by kernel_rfl
/-- exits as values -/
def flatEx (xs : List (Int × Int)) : List Value := xs.flatMap fun p => [.int .i64 p.1, .int .i64 p.2]
theorem flatEx_app (xs : List (Int × Int)) (j t : Int) : flatEx (xs ++ [(j, t)]) = flatEx xs ++ [.int .i64 j, .int .i64 t] := by simp [flatEx]
theorem flatEx_at : ∀ (xs : List (Int × Int)) (k : Nat) (j t : Int), xs[k]? = some (j, t) → (flatEx xs)[k * 2]? = some (.int .i64 j) ∧ (flatEx xs)[k * 2 + 1]? = some (.int .i64 t)
  | [], k, j, t, h => by simp at h
  | d :: xs, 0, j, t, h => by
    simp at h
    subst h
    exact ⟨rfl, rfl⟩
  | d :: xs, k + 1, j, t, h => by
    obtain ⟨k0, k1⟩ := flatEx_at xs k j t (by simpa using h)
    have e : flatEx (d :: xs) = .int .i64 d.1 :: .int .i64 d.2 :: flatEx xs := rfl
    rw [e, show (k + 1) * 2 = k * 2 + 1 + 1 by omega, show k * 2 + 1 + 1 + 1 = (k * 2 + 1) + 1 + 1 by omega]
    exact ⟨by simpa using k0, by simpa using k1⟩
def arr8 (F : Nat → Value) : Array Value := #[F 0, F 1, F 2, F 3, F 4, F 5, F 6, F 7]
def upd {α : Type} (F : Nat → α) (s : Nat) (v : α) : Nat → α := fun q => if q = s then v else F q
theorem upd_same {α : Type} (F : Nat → α) (s : Nat) (v : α) : upd F s v s = v := if_pos rfl
theorem upd_ne {α : Type} (F : Nat → α) {s q : Nat} (v : α) (h : ¬ q = s) : upd F s v q = F q := if_neg h
theorem arr8_get (F : Nat → Value) {s : Nat} (h : s < 8) : (arr8 F)[s]? = some (F s) := by
  have : s = 0 ∨ s = 1 ∨ s = 2 ∨ s = 3 ∨ s = 4 ∨ s = 5 ∨ s = 6 ∨ s = 7 := by omega
  rcases this with rfl | rfl | rfl | rfl | rfl | rfl | rfl | rfl <;> rfl
theorem arr8_set (F : Nat → Value) (v : Value) {s : Nat} (h : s < 8) : (arr8 F).setIfInBounds s v = arr8 (upd F s v) := by
  have : s = 0 ∨ s = 1 ∨ s = 2 ∨ s = 3 ∨ s = 4 ∨ s = 5 ∨ s = 6 ∨ s = 7 := by omega
  rcases this with rfl | rfl | rfl | rfl | rfl | rfl | rfl | rfl <;> rfl
/-- the table of exits while it grows: the marks' box, the table's cells, a row for each station, each in a block of its own -/
def EXb (w : World) (g Bx : Nat) (C : Array Value) (F : Nat → Value) (R : Nat → List (Int × Int)) (v : World) : Prop :=
  Below w.heap.size w v ∧ Blk v Bx 71 C ∧ Blk v g 119 (arr8 F) ∧ (∀ s, s < 8 → ∃ A m c, F s = .slice A m c ∧ (R s).length = m ∧ v.ownsRow w.heap.size 121 2 (.slice A m c) m (flatEx (R s))) ∧ (∀ s t, s < 8 → t < 8 → ¬ s = t → ∀ b, (F s).ownBlock = some b → ¬ (F t).ownBlock = some b) ∧ w.heap.size ≤ g
section
variable {w v v' : World} {g Bx : Nat} {C : Array Value} {F : Nat → Value} {R R' : Nat → List (Int × Int)}
theorem EXb.step (h : EXb w g Bx C F R v) (hb : Below v.heap.size v v') : EXb w g Bx C F R v' := by
  obtain ⟨h1, h2, h3, h4, h5, h6⟩ := h
  refine ⟨h1.trans (hb.mono h1.size), h2.below hb h2.lt, h3.below hb h3.lt, fun s hs => ?_, h5, h6⟩
  obtain ⟨A, m, c, e1, e2, e3⟩ := h4 s hs
  exact ⟨A, m, c, e1, e2, row_below e3 hb⟩
theorem EXb.congr (h : EXb w g Bx C F R v) (he : ∀ s, s < 8 → R' s = R s) : EXb w g Bx C F R' v := by
  obtain ⟨h1, h2, h3, h4, h5, h6⟩ := h
  refine ⟨h1, h2, h3, fun s hs => ?_, h5, h6⟩
  rw [he s hs]; exact h4 s hs
theorem EXb.row (h : EXb w g Bx C F R v) (s : Nat) (hs : s < 8) : ∃ A m c, F s = .slice A m c ∧ (R s).length = m ∧ v.ownsRow w.heap.size 121 2 (.slice A m c) m (flatEx (R s)) := h.2.2.2.1 s hs
theorem EXb.cell (h : EXb w g Bx C F R v) (s : Nat) (hs : s < 8) : v.cell? ⟨g, s, none⟩ = some (F s) := (h.2.2.1.cell s).trans (arr8_get F hs)
/-- an exit put behind the others of a station -/
theorem EXb.put (h : EXb w g Bx C F R v) {s : Nat} (hs : s < 8) {A : Option Addr} {m c g8 c8 : Nat} {j t : Int} (hF : F s = .slice A m c) (hl : (R s).length = m) (ho : v'.ownsRow w.heap.size 121 2 (.slice (some ⟨g8, 0, none⟩) (m + 1) c8) (m + 1) (flatEx (R s) ++ [.int .i64 j, .int .i64 t])) (hg : v.grownBy v' (Value.slice A m c).ownBlock) (hat : (Value.slice A m c).ownBlock = some g8 ∨ g8 = v.heap.size) :
    EXb w g Bx C (upd F s (.slice (some ⟨g8, 0, none⟩) (m + 1) c8)) (upd R s (R s ++ [(j, t)])) (v'.setCell ⟨g, s, none⟩ (.slice (some ⟨g8, 0, none⟩) (m + 1) c8)) := by
  obtain ⟨h1, h2, h3, h4, h5, h6⟩ := h
  obtain ⟨A0, m0, c0, e1, e2, e3⟩ := h4 s hs
  have e0 : Value.slice A0 m0 c0 = .slice A m c := by rw [← e1, hF]
  rw [e0] at e3
  have m0m : m0 = m := by injection e0
  rw [m0m] at e3
  have hB1 : Below w.heap.size w v' := h1.grown hg h1.size (fun b e => (e3.lt b e).1)
  have n2 : some Bx ≠ (Value.slice A m c).ownBlock := fun q => own_blk_ne e3 h2 (by decide) q.symm
  have n3 : some g ≠ (Value.slice A m c).ownBlock := fun q => own_blk_ne e3 h3 (by decide) q.symm
  have k2 := h2.grown hg n2
  have k3 := h3.grown hg n3
  have far : ∀ {A1 : Option Addr} {m1 c1 : Nat} {us : List Value}, v'.ownsRow w.heap.size 121 2 (.slice A1 m1 c1) m1 us → (v'.setCell ⟨g, s, none⟩ (.slice (some ⟨g8, 0, none⟩) (m + 1) c8)).ownsRow w.heap.size 121 2 (.slice A1 m1 c1) m1 us := fun {A1 m1 c1 us} hr =>
    hr.kept (row := some g) ⟨rfl, rfl, rfl, by simp [World.setCell], fun j hj hn => Below.heap_setCell v' ⟨g, s, none⟩ _ j (by rintro rfl; exact hn rfl)⟩ (.inr (own_blk_ne hr k3 (by decide)))
  refine ⟨hB1.setCell h6 _, k2.far (Blk.ne_ k2 k3 (by decide)) _, ?_, fun q hq => ?_, fun p q hp hq hpq b e => ?_, h6⟩
  · rw [← arr8_set F _ hs]; exact k3.set_ s _
  · by_cases e : q = s
    · subst e
      rw [upd_same, upd_same]
      exact ⟨_, _, _, rfl, by rw [List.length_append, hl]; rfl, by rw [flatEx_app]; exact far ho⟩
    · rw [upd_ne F _ e, upd_ne R _ e]
      obtain ⟨A2, m2, c2, f1, f2, f3⟩ := h4 q hq
      refine ⟨A2, m2, c2, f1, f2, far (f3.kept hg ?_)⟩
      cases ob : (Value.slice A2 m2 c2).ownBlock with
      | none => exact .inl rfl
      | some b => exact .inr (fun e2 => h5 s q hs hq (fun q2 => e q2.symm) b (by rw [hF]; exact e2.symm) (by rw [f1]; exact ob))
  · have old : ∀ r, r < 8 → ¬ r = s → ∀ b, (F r).ownBlock = some b → ¬ b = g8 := fun r hr hrs b eb e8 => by
      rcases hat with z | z
      · exact h5 s r hs hr (fun q2 => hrs q2.symm) b (by rw [hF, e8]; exact z) eb
      · obtain ⟨A2, m2, c2, f1, f2, f3⟩ := h4 r hr
        rw [f1] at eb
        have := (f3.lt b eb).2
        omega
    by_cases e1 : p = s
    · by_cases e2 : q = s
      · exact absurd (e1.trans e2.symm) hpq
      · rw [e1, upd_same] at e
        have e8 : g8 = b := by simpa [Value.ownBlock] using e
        rw [upd_ne F _ e2]
        exact fun eq => old q hq e2 b eq e8.symm
    · rw [upd_ne F _ e1] at e
      by_cases e2 : q = s
      · rw [e2, upd_same]
        intro eq
        have e8 : g8 = b := by simpa [Value.ownBlock] using eq
        exact old p hp e1 b e e8.symm
      · rw [upd_ne F _ e2]; exact h5 p q hp hq hpq b e
/-- the table as it is read -/
theorem EXb.at_ (h : EXb w g Bx C F R v) (hm : ∀ s, s < 8 → (R s).length ≤ 12) : ExAt v v.heap.size g (fun s => R s.toNat) := by
  refine ⟨h.2.2.1.lt, fun s hs => ?_⟩
  obtain ⟨A, m, c, e1, e2, e3⟩ := h.row s hs
  refine ⟨A, m, c, by rw [h.cell s hs, e1], by rw [← e2]; exact hm s hs, by show (R ((s : Int).toNat)).length = m; rw [Int.toNat_natCast]; exact e2, fun k j t hk => ?_⟩
  have hk : (R ((s : Int).toNat))[k]? = some (j, t) := hk
  rw [Int.toNat_natCast] at hk
  have hkm : k < m := by have := lt_at hk; rw [e2] at this; exact this
  obtain ⟨b, cap, hv, -, hlt⟩ := e3.form (by omega)
  injection hv with hA _ _
  subst hA
  obtain ⟨f0, f1⟩ := flatEx_at (R s) k j t hk
  have hsz := e3.1
  exact ⟨b, rfl, hlt, by rw [e3.cellAt (k * 2) (by omega)]; exact f0, by rw [e3.cellAt (k * 2 + 1) (by omega)]; exact f1⟩
end
theorem two_cell {W : World} {G : Nat} {x y : Value} (h : Blk W G 121 #[x, y]) : ∀ q u, [x, y][q]? = some u → W.cell? ((⟨G, 0, none⟩ : Addr).add q) = some u := fun q u hu => by
  have e : (⟨G, 0, none⟩ : Addr).add q = ⟨G, q, none⟩ := by unfold Addr.add; by_cases hj : q = 0 <;> simp [hj]
  rw [e, h.cell]; simpa using hu
theorem step_ex {ops : Array Oper} {o : Oper} {a : Act} {w : World} {K : Act → World → Prop} {Q : Exit → Act → World → Prop} {E : Prop} (hgd : o.guard = none) (s x : Operand) (ho : o.op = .call { callee := .builtin .append, args := #[s, x], argTypes := #[119, 119] })
    {bs n : Nat} {A : Option Addr} {m0 c0 : Nat} {xs : List Value} {j t : Int} {ad : Addr} (hs : a.eval s = .slice A m0 c0) (hown : w.ownsRow bs 121 2 (.slice A m0 c0) n xs) (hx : a.eval x = .slice (some ad) 1 1) (hnews : ∀ q u, [Value.int .i64 j, .int .i64 t][q]? = some u → w.cell? (ad.add q) = some u) (h6 : n ≤ 1000000) (hb : bs ≤ w.heap.size) (H : Nat) (hH : w.heap.size = H)
    (h : ∀ g cap w', w'.ownsRow bs 121 2 (.slice (some ⟨g, 0, none⟩) (n + 1) cap) (n + 1) (xs ++ [.int .i64 j, .int .i64 t]) → w.grownBy w' (Value.slice A m0 c0).ownBlock → ((Value.slice A m0 c0).ownBlock = some g ∨ g = H) → g < w'.heap.size → K (a.put o.dst (.slice (some ⟨g, 0, none⟩) (n + 1) cap)) w') :
    if Region.wanted o (yielded ops a.tmps) = true then Oper.wp Tryd.prog o a w K Q else E := by
  obtain ⟨i0, hi, hz0, hz1, hz2⟩ := info_parts infoEx
  exact step_append_lies w hgd s x 119 ho bs 121 i0 (.agg #[.int .i64 0, .int .i64 0]) 2 16 Tryd.underlying119 hi hz0 hz1 hz2 rfl (by decide) (.slice A m0 c0) n xs hs hown ad 1 1 [.int .i64 j, .int .i64 t] hx rfl hnews (fun u hu => by simp at hu; rcases hu with rfl | rfl <;> rfl) (by decide) (by unfold maxLen; omega) (by omega) hb H hH h
theorem made8 : madeCells (Value.slice none 0 0).cells (8 * 1) = arr8 (fun _ => .slice none 0 0) := by kernel_rfl
/-- the exits that a call has listed -/
def XPo (ts : List Lg) (bs : List Bool) (w : World) (e : Ending) (w' : World) : Prop :=
  ∃ g, e = .returned (.slice (some ⟨g, 0, none⟩) 8 8) ∧ Below w.heap.size w w' ∧ ExAt w' w'.heap.size g (fun s => exR ts bs ts.length (s.toNat : Int))
set_option maxHeartbeats 16000000 in
set_option maxRecDepth 100000 in
theorem exits_any (A : Option Addr) (n cap : Nat) (ts : List Lg) (bs : List Bool) (C : Array Value) (w : World) (hg : Hid (goodLg ts = true)) (hbs : Hid (bs.length = 12)) (hC : Hid (∀ (k : Nat) (b : Bool), bs[k]? = some b → C[k]? = some (Value.bool b))) (hC12 : C.size = 12) (hts : Hid (LgAt w w.heap.size A n ts)) :
    Calls Tryd.prog 112 #[.slice A n cap, .agg C] w (XPo ts bs w) := by
  have HL := Lib.hid hts.out.1
  have hn12 := len12 HL.out hg.out
  obtain ⟨i0, hi, hz0, hz1, hz2⟩ := info_parts infoExs
  have hmk : ∀ W : World, (Instr.makeSlice 111 (.int .i64 8) (.int .i64 8)).run Tryd.prog W = .ok (.slice (some ⟨W.heap.size, 0, none⟩) 8 8) (W.alloc (.cells (arr8 (fun _ => .slice none 0 0)) 119)) := fun W => by
    have h := run_make_rowN (P := Tryd.prog) 111 119 i0 _ Tryd.underlying111 hi hz0 .i64 .i64 8 8 (Nat.le_refl _) (by rw [hz2]; omega) (by omega) W
    rw [hz1, made8] at h
    exact h
  obtain ⟨T8, HT8⟩ : ∃ T, Hid (arr8 (fun _ => Value.slice none 0 0) = T) := ⟨_, Lib.hid rfl⟩
  have HE := Lib.hid (show EXb w (w.heap.size + 1) w.heap.size C (fun _ => .slice none 0 0) (fun s => exR ts bs 0 (s : Int)) ((w.alloc (.cells C 71)).alloc (.cells T8 119)) by
    have h := Blk.new (w.alloc (.cells C 71)) 119 T8
    rw [show (w.alloc (.cells C 71)).heap.size = w.heap.size + 1 by simp] at h
    refine ⟨((Below.refl _ _).alloc (Nat.le_refl _) _).alloc (by simp) _, (Blk.new w _ _).alloc _, by rw [HT8.out]; exact h, fun s hs => ⟨none, 0, 0, rfl, rfl, rfl, .inl ⟨rfl, rfl⟩⟩, fun s t _ _ _ b e => by simp [Value.ownBlock] at e, by omega⟩)
  simp only [HT8.out] at hmk
  obtain ⟨W0, HW0⟩ : ∃ W, Hid ((w.alloc (.cells C 71)).alloc (.cells T8 119) = W) := ⟨_, Lib.hid rfl⟩
  obtain ⟨g, HG⟩ : ∃ g, Hid (w.heap.size + 1 = g) := ⟨_, Lib.hid rfl⟩
  obtain ⟨Bx, HBX⟩ : ∃ g, Hid (w.heap.size = g) := ⟨_, Lib.hid rfl⟩
  have HE0 := Lib.hid (show EXb w g Bx C (fun _ => .slice none 0 0) (fun s => exR ts bs 0 (s : Int)) W0 by rw [← HW0.out, ← HG.out, ← HBX.out]; exact HE.out)
  clear HE HT8
  go_enter Tryd.func112, Tryd.ntmps112
  go_upto_region 2 with fail
  try rw [HG.out]
  try simp only [HG.out]
  try rw [HBX.out]
  try simp only [HBX.out]
  rw [HW0.out]
  clear HW0 HG HBX hmk
  go_wp2_with fail
  go_loopw [11] (fun i wr => ∃ (k : Nat) (F : Nat → Value), k ≤ n ∧ i = .int .i64 (k : Nat) ∧ EXb w g Bx C F (fun s => exR ts bs k (s : Int)) wr) (fun i _ => n - (intOf i).toNat)
  case atStart => exact ⟨0, _, Nat.zero_le _, rfl, HE0.out⟩
  case round =>
    obtain ⟨k, F, hk, rfl, hE⟩ := hrel
    have HE := Lib.hid hE
    clear hE HE0
    have hk0 : (0 : Int) ≤ (k : Int) := by omega
    by_cases hlt : k < n
    · obtain ⟨x, hx⟩ := at_lt HL.out hlt
      obtain ⟨gL, rfl, hgL, e0, e1, e2, e3, e4⟩ := (hts.out.below HE.out.1).2 k x hx
      have hok := goodLg_at hg.out hx
      obtain ⟨l1, l2, l3, -⟩ := okLg_lim hok
      obtain ⟨fr, to_, tp, cp, sl⟩ := x
      simp only [] at l1 l2 l3 e0 e1 e2 e3 e4
      obtain ⟨a, rfl⟩ : ∃ a : Nat, fr = (a : Int) := ⟨fr.toNat, by omega⟩
      obtain ⟨b, rfl⟩ : ∃ b : Nat, to_ = (b : Int) := ⟨to_.toNat, by omega⟩
      have ha8 : a < 8 := by omega
      have hb8 : b < 8 := by omega
      have hab : ¬ a = b := by omega
      have ha8i : (a : Int) < 8 := by omega
      have hb8i : (b : Int) < 8 := by omega
      have ha0 : (0 : Int) ≤ (a : Int) := by omega
      have hb0 : (0 : Int) ≤ (b : Int) := by omega
      have HX := Lib.hid hx
      have hki : (k : Int) < (n : Int) := by omega
      have hkd : decide (k < n) = true := by simpa using hlt
      have hk12 : k < 12 := by omega
      have hk12i : (k : Int) < 12 := by omega
      obtain ⟨bb, hbb⟩ : ∃ b, bs[k]? = some b := ⟨_, List.getElem?_eq_getElem (by rw [hbs.out]; exact hk12)⟩
      have HBB := Lib.hid hbb
      have HCK := Lib.hid (hC.out k bb hbb)
      have hLN0 := Lib.hid (show ∀ s : Nat, (exR ts bs k (s : Int)).length ≤ 12 from fun s => Nat.le_trans (exR_len ts bs s k) (by omega))
      clear hx hok l1 l2 l3 hbb
      go_upto_region 5 with fail
      obtain ⟨V, HV⟩ : ∃ V, Hid (wr.alloc (.cells #[.int .i64 (a : Int), .int .i64 (b : Int), .int .i64 tp, .int .i64 cp, .int .i64 sl] 51) = V) := ⟨_, Lib.hid rfl⟩
      obtain ⟨X, HXX⟩ : ∃ X, Hid (wr.heap.size = X) := ⟨_, Lib.hid rfl⟩
      have HEV := Lib.hid (show EXb w g Bx C F (fun s => exR ts bs k (s : Int)) V by rw [← HV.out]; exact HE.out.step ((Below.refl _ _).alloc (Nat.le_refl _) _))
      have HXV := Lib.hid (show Blk V X 51 #[.int .i64 (a : Int), .int .i64 (b : Int), .int .i64 tp, .int .i64 cp, .int .i64 sl] by rw [← HV.out, ← HXX.out]; exact Blk.new _ _ _)
      try rw [HXX.out]
      try simp only [HXX.out]
      rw [HV.out]
      clear HV HXX HE e0 e1 e2 e3 e4
      have cb := (HEV.out.2.1.cell k).trans HCK.out
      cases bb
      · have HNX := Lib.hid (fun (s : Nat) => exR_shut (s := (s : Int)) HX.out HBB.out)
        go_wp2_with fail
        go_roundw
        case rel => exact ⟨k + 1, F, by omega, by go_num, HEV.out.congr (fun s _ => HNX.out s)⟩
        case measure => simp [intOf]; omega
      · obtain ⟨R1, HR1⟩ : ∃ R, Hid ((fun s : Nat => exR ts bs k (s : Int)) = R) := ⟨_, Lib.hid rfl⟩
        have HNX := Lib.hid (show ∀ s : Nat, s < 8 → exR ts bs (k + 1) (s : Int) = upd (upd R1 a (R1 a ++ [((k : Int), (b : Int))])) b (upd R1 a (R1 a ++ [((k : Int), (b : Int))]) b ++ [((k : Int), (a : Int))]) s from fun s hs => by
          rw [← HR1.out]
          by_cases e : s = b
          · rw [e, upd_same, upd_ne _ _ (fun q => hab q.symm)]
            exact exR_to HX.out HBB.out (fun q => hab (by have : (a : Int) = (b : Int) := q; omega)) rfl
          · rw [upd_ne _ _ e]
            by_cases e2 : s = a
            · rw [e2, upd_same]
              exact exR_frm HX.out HBB.out rfl
            · rw [upd_ne _ _ e2]
              exact exR_no HX.out HBB.out (fun q => e2 (by have : (a : Int) = (s : Int) := q; omega)) (fun q => e (by have : (b : Int) = (s : Int) := q; omega)))
        have hLN : ∀ s : Nat, (R1 s).length ≤ 24 := fun s => by rw [← HR1.out]; exact Nat.le_trans (hLN0.out s) (by decide)
        have hLNH := Lib.hid hLN
        rw [HR1.out] at HEV
        clear hLN
        go_upto_region 6 with fail
        clear cb
        go_cut [19] (fun _ wx => ∃ F1 : Nat → Value, EXb w g Bx C F1 (upd R1 a (R1 a ++ [((k : Int), (b : Int))])) wx ∧ Blk wx X 51 #[.int .i64 (a : Int), .int .i64 (b : Int), .int .i64 tp, .int .i64 cp, .int .i64 sl])
        case first =>
          rename_i J0 K0 hJ0 hK0
          have hLN := hLNH.out
          have HE0 := Lib.hid (HEV.out.step (Below.refl _ _).drew)
          have HX0 := Lib.hid (HXV.out.below (Below.refl _ _).drew HXV.out.lt)
          obtain ⟨A9, m9, c9, hF9, hl9, hrow⟩ := HE0.out.row a ha8
          have HROW := Lib.hid hrow
          have HL9 := Lib.hid hl9
          have HF9 := Lib.hid hF9
          have hm9 : m9 ≤ 24 := by rw [← hl9]; exact hLN a
          clear hrow hl9 hF9
          obtain ⟨V0, HV0⟩ : ∃ Z, Hid (V.drew = Z) := ⟨_, Lib.hid rfl⟩
          rw [HV0.out] at HE0 HX0 HROW
          refine wp_region_held_drew (S := (fun v => v.cell? ⟨X, 0, none⟩ = some (.int .i64 (a : Int)) ∧ v.cell? ⟨X, 1, none⟩ = some (.int .i64 (b : Int)))) (by kernel_rfl) ?_ (fun hHeld => ?_)
          · rw [HV0.out]; exact ⟨HX0.out.cell 0, HX0.out.cell 1⟩
          rw [HV0.out] at hHeld ⊢
          clear HV0
          refine' wpAnyH_take (i := 0) (v := ?vx14_0) rfl (by kernel_rfl) (by kernel_rfl) (by kernel_rfl) (fun _ _ _ h => h) (Or.inl ⟨by rfl, ?hyx14_0⟩) (by assumption) ?restx14_0
          case hyx14_0 => (intro w hSw; (try dsimp only at hSw); go_simp; try (with_reducible rfl))
          simp only [Act.put, List.getElem_toArray, List.getElem_cons_succ, List.getElem_cons_zero, List.setIfInBounds_toArray, List.set_cons_zero, List.set_cons_succ]
          refine' wpAnyH_take (i := 1) (v := ?vx15_1) rfl (by kernel_rfl) (by kernel_rfl) (by kernel_rfl) (fun _ _ _ h => h) (Or.inl ⟨by rfl, ?hyx15_1⟩) (by assumption) ?restx15_1
          case hyx15_1 => (intro w hSw; (try dsimp only at hSw); go_simp; try (with_reducible rfl))
          simp only [Act.put, List.getElem_toArray, List.getElem_cons_succ, List.getElem_cons_zero, List.setIfInBounds_toArray, List.set_cons_zero, List.set_cons_succ]
          refine' wpAnyH_take (i := 2) (v := ?vx16_2) rfl (by kernel_rfl) (by kernel_rfl) (by kernel_rfl) (fun _ _ _ h => h) (Or.inl ⟨by rfl, ?hyx16_2⟩) (by assumption) ?restx16_2
          case hyx16_2 => (intro w hSw; (try dsimp only at hSw); go_simp; try (with_reducible rfl))
          simp only [Act.put, List.getElem_toArray, List.getElem_cons_succ, List.getElem_cons_zero, List.setIfInBounds_toArray, List.set_cons_zero, List.set_cons_succ]
          refine' wpAnyH_take (i := 3) (v := ?vx17_3) rfl (by kernel_rfl) (by kernel_rfl) (by kernel_rfl) (fun _ _ _ h => h) (Or.inl ⟨by rfl, ?hyx17_3⟩) (by assumption) ?restx17_3
          case hyx17_3 => (intro w hSw; (try dsimp only at hSw); go_simp; try (with_reducible rfl))
          simp only [Act.put, List.getElem_toArray, List.getElem_cons_succ, List.getElem_cons_zero, List.setIfInBounds_toArray, List.set_cons_zero, List.set_cons_succ]
          refine' wpAnyH_take (i := 4) (v := ?vx18_4) rfl (by kernel_rfl) (by kernel_rfl) (by kernel_rfl) (fun _ _ _ h => h) (Or.inl ⟨by rfl, ?hyx18_4⟩) (by assumption) ?restx18_4
          case hyx18_4 => (intro w hSw; (try dsimp only at hSw); go_simp; try (with_reducible rfl))
          simp only [Act.put, List.getElem_toArray, List.getElem_cons_succ, List.getElem_cons_zero, List.setIfInBounds_toArray, List.set_cons_zero, List.set_cons_succ]
          refine' wpAnyH_take (i := 5) (v := ?vx19_5) rfl (by kernel_rfl) (by kernel_rfl) (by kernel_rfl) (fun _ _ _ h => h) (Or.inl ⟨by rfl, ?hyx19_5⟩) (by assumption) ?restx19_5
          case hyx19_5 => (intro w hSw; (try dsimp only at hSw); go_simp; try (with_reducible rfl))
          simp only [Act.put, List.getElem_toArray, List.getElem_cons_succ, List.getElem_cons_zero, List.setIfInBounds_toArray, List.set_cons_zero, List.set_cons_succ]
          refine' wpAnyH_take (i := 6) (v := ?vx20_6) rfl (by kernel_rfl) (by kernel_rfl) (by kernel_rfl) (fun _ _ _ h => h) (Or.inl ⟨by rfl, ?hyx20_6⟩) (by assumption) ?restx20_6
          case hyx20_6 => (intro w hSw; (try dsimp only at hSw); go_simp; try (with_reducible rfl))
          simp only [Act.put, List.getElem_toArray, List.getElem_cons_succ, List.getElem_cons_zero, List.setIfInBounds_toArray, List.set_cons_zero, List.set_cons_succ]
          refine' wpAnyH_take (i := 8) (v := ?vx21_8) rfl (by kernel_rfl) (by kernel_rfl) (by kernel_rfl) (fun _ _ _ h => h) (Or.inl ⟨by rfl, ?hyx21_8⟩) (by assumption) ?restx21_8
          case hyx21_8 => (intro w hSw; (try dsimp only at hSw); go_simp; try (with_reducible rfl))
          simp only [Act.put, List.getElem_toArray, List.getElem_cons_succ, List.getElem_cons_zero, List.setIfInBounds_toArray, List.set_cons_zero, List.set_cons_succ]
          refine' wpAnyH_take (i := 9) (v := ?vx22_9) rfl (by kernel_rfl) (by kernel_rfl) (by kernel_rfl) (fun _ _ _ h => h) (Or.inl ⟨by rfl, ?hyx22_9⟩) (by assumption) ?restx22_9
          case hyx22_9 => (intro w hSw; (try dsimp only at hSw); go_simp; try (with_reducible rfl))
          simp only [Act.put, List.getElem_toArray, List.getElem_cons_succ, List.getElem_cons_zero, List.setIfInBounds_toArray, List.set_cons_zero, List.set_cons_succ]
          refine' wpAnyH_take (i := 10) (v := ?vx23_10) rfl (by kernel_rfl) (by kernel_rfl) (by kernel_rfl) (fun _ _ _ h => h) (Or.inl ⟨by rfl, ?hyx23_10⟩) (by assumption) ?restx23_10
          case hyx23_10 => (intro w hSw; (try dsimp only at hSw); go_simp; try (with_reducible rfl))
          simp only [Act.put, List.getElem_toArray, List.getElem_cons_succ, List.getElem_cons_zero, List.setIfInBounds_toArray, List.set_cons_zero, List.set_cons_succ]
          refine' wpAnyH_take (i := 11) (v := ?vx24_11) rfl (by kernel_rfl) (by kernel_rfl) (by kernel_rfl) (fun _ _ _ h => h) (Or.inl ⟨by rfl, ?hyx24_11⟩) (by assumption) ?restx24_11
          case hyx24_11 => (intro w hSw; (try dsimp only at hSw); go_simp; try (with_reducible rfl))
          simp only [Act.put, List.getElem_toArray, List.getElem_cons_succ, List.getElem_cons_zero, List.setIfInBounds_toArray, List.set_cons_zero, List.set_cons_succ]
          refine wpAnyH_ready (rs := [7, 12]) (by kernel_rfl) (by simp) ?_
          refine AllReadyH.cons rfl (fun K hK => ?_) (AllReadyH.cons rfl (fun K hK => ?_) AllReadyH.nil)
          · have c7 := (HE0.out.cell a ha8).trans (congrArg some HF9.out)
            go_simp
            refine hK.out _ _ hHeld (fun hHeld1 => ?_)
            clear hK K hHeld
            have hHeld := hHeld1
            clear hHeld1
            try simp only [Act.put, List.getElem_toArray, List.getElem_cons_succ, List.getElem_cons_zero, List.setIfInBounds_toArray, List.set_cons_zero, List.set_cons_succ]
            clear c7
            refine wpAnyH_ready (rs := [12]) (by kernel_rfl) (by simp) ?_
            refine AllReadyH.cons rfl (fun K hK => ?_) AllReadyH.nil
            obtain ⟨V1, HV1⟩ : ∃ Z, Hid (V0.alloc (.cells #[.int .i64 (k : Int), .int .i64 (b : Int)] 121) = Z) := ⟨_, Lib.hid rfl⟩
            obtain ⟨G1, HG1⟩ : ∃ Z, Hid (V0.heap.size = Z) := ⟨_, Lib.hid rfl⟩
            have HB1 := Lib.hid (show Below V0.heap.size V0 V1 by rw [← HV1.out]; exact (Below.refl _ _).alloc (Nat.le_refl _) _)
            have HE1 := Lib.hid (HE0.out.step HB1.out)
            have HX1 := Lib.hid (HX0.out.below HB1.out HX0.out.lt)
            have HN1 := Lib.hid (show Blk V1 G1 121 #[.int .i64 (k : Int), .int .i64 (b : Int)] by rw [← HV1.out, ← HG1.out]; exact Blk.new _ _ _)
            have HRO1 := Lib.hid (row_below HROW.out HB1.out)
            have hhb : ((V0.alloc (.cells #[.int .i64 (k : Int), .int .i64 (b : Int)] 121)).cell? ⟨X, 0, none⟩ = some (.int .i64 (a : Int)) ∧ (V0.alloc (.cells #[.int .i64 (k : Int), .int .i64 (b : Int)] 121)).cell? ⟨X, 1, none⟩ = some (.int .i64 (b : Int))) := by rw [HV1.out]; exact ⟨HX1.out.cell 0, HX1.out.cell 1⟩
            go_simp
            refine hK.out _ _ hhb (fun hHeld1 => ?_)
            clear hhb
            clear hK K hHeld
            have hHeld := hHeld1
            clear hHeld1
            try simp only [Act.put, List.getElem_toArray, List.getElem_cons_succ, List.getElem_cons_zero, List.setIfInBounds_toArray, List.set_cons_zero, List.set_cons_succ]
            rw [HV1.out] at hHeld
            try rw [HG1.out]
            try simp only [HG1.out]
            rw [HV1.out]
            clear HV1
            refine wpAnyH_ready (rs := [13]) (by kernel_rfl) (by simp) ?_
            refine AllReadyH.cons rfl (fun K hK => ?_) AllReadyH.nil
            refine step_ex rfl _ _ rfl rfl HRO1.out rfl (two_cell HN1.out) (by omega) HE1.out.1.size _ rfl ?_
            intro g8 c8 V2 ho hgr hat hlt8
            have HO8 := Lib.hid ho
            have HGR := Lib.hid hgr
            have HAT := Lib.hid hat
            have HX2 := Lib.hid (HX1.out.grown hgr (by have := own_blk_ne HRO1.out HX1.out (by decide); exact fun q => this q.symm))
            have HT2 := Lib.hid (HE1.out.2.2.1.grown hgr (by have := own_blk_ne HRO1.out HE1.out.2.2.1 (by decide); exact fun q => this q.symm))
            clear ho hgr hat
            refine hK.out _ _ ⟨HX2.out.cell 0, HX2.out.cell 1⟩ (fun hHeld1 => ?_)
            clear hK K hHeld
            have hHeld := hHeld1
            clear hHeld1
            try simp only [Act.put, List.getElem_toArray, List.getElem_cons_succ, List.getElem_cons_zero, List.setIfInBounds_toArray, List.set_cons_zero, List.set_cons_succ]
            refine' wpAnyH_take (i := 14) (v := ?vx25_14) rfl (by kernel_rfl) (by kernel_rfl) (by kernel_rfl) (fun _ _ _ h => h) (Or.inl ⟨by rfl, ?hyx25_14⟩) (by assumption) ?restx25_14
            case hyx25_14 => (intro w hSw; (try dsimp only at hSw); go_simp; try (with_reducible rfl))
            simp only [Act.put, List.getElem_toArray, List.getElem_cons_succ, List.getElem_cons_zero, List.setIfInBounds_toArray, List.set_cons_zero, List.set_cons_succ]
            have t0 := HT2.out.lt
            have t1 := HT2.out.frozen a
            have t2 := (HT2.out.cell a).trans (arr8_get F ha8)
            refine wpAnyH_ready (rs := [15]) (by kernel_rfl) (by simp) ?_
            refine AllReadyH.cons rfl (fun K hK => ?_) AllReadyH.nil
            go_simp
            have HP := Lib.hid (HE1.out.put ha8 HF9.out HL9.out HO8.out HGR.out HAT.out)
            have HXP := Lib.hid (show Blk (V2.setCell ⟨g, a, none⟩ (.slice (some ⟨g8, 0, none⟩) (m9 + 1) c8)) X 51 #[.int .i64 (a : Int), .int .i64 (b : Int), .int .i64 tp, .int .i64 cp, .int .i64 sl] from HX2.out.far (p := ⟨g, a, none⟩) (Blk.ne_ HX2.out HT2.out (by decide)) _)
            refine hK.out _ _ ⟨HXP.out.cell 0, HXP.out.cell 1⟩ (fun hHeld1 => ?_)
            clear hK K hHeld hHeld1
            try simp only [Act.put, List.getElem_toArray, List.getElem_cons_succ, List.getElem_cons_zero, List.setIfInBounds_toArray, List.set_cons_zero, List.set_cons_succ]
            refine wpAnyH_done (by kernel_rfl) ?_ _
            refine hK0 _ _ (Met.intro (hJ0 _ _ ?_))
            (repeat apply Exists.intro)
            exact ⟨⟨_, HP.out, HXP.out⟩, rfl⟩
          · obtain ⟨V1, HV1⟩ : ∃ Z, Hid (V0.alloc (.cells #[.int .i64 (k : Int), .int .i64 (b : Int)] 121) = Z) := ⟨_, Lib.hid rfl⟩
            obtain ⟨G1, HG1⟩ : ∃ Z, Hid (V0.heap.size = Z) := ⟨_, Lib.hid rfl⟩
            have HB1 := Lib.hid (show Below V0.heap.size V0 V1 by rw [← HV1.out]; exact (Below.refl _ _).alloc (Nat.le_refl _) _)
            have HE1 := Lib.hid (HE0.out.step HB1.out)
            have HX1 := Lib.hid (HX0.out.below HB1.out HX0.out.lt)
            have HN1 := Lib.hid (show Blk V1 G1 121 #[.int .i64 (k : Int), .int .i64 (b : Int)] by rw [← HV1.out, ← HG1.out]; exact Blk.new _ _ _)
            have HRO1 := Lib.hid (row_below HROW.out HB1.out)
            have hhb : ((V0.alloc (.cells #[.int .i64 (k : Int), .int .i64 (b : Int)] 121)).cell? ⟨X, 0, none⟩ = some (.int .i64 (a : Int)) ∧ (V0.alloc (.cells #[.int .i64 (k : Int), .int .i64 (b : Int)] 121)).cell? ⟨X, 1, none⟩ = some (.int .i64 (b : Int))) := by rw [HV1.out]; exact ⟨HX1.out.cell 0, HX1.out.cell 1⟩
            go_simp
            refine hK.out _ _ hhb (fun hHeld1 => ?_)
            clear hhb
            clear hK K hHeld
            have hHeld := hHeld1
            clear hHeld1
            try simp only [Act.put, List.getElem_toArray, List.getElem_cons_succ, List.getElem_cons_zero, List.setIfInBounds_toArray, List.set_cons_zero, List.set_cons_succ]
            rw [HV1.out] at hHeld
            try rw [HG1.out]
            try simp only [HG1.out]
            rw [HV1.out]
            clear HV1
            refine wpAnyH_ready (rs := [7]) (by kernel_rfl) (by simp) ?_
            refine AllReadyH.cons rfl (fun K hK => ?_) AllReadyH.nil
            have c7 := (HE1.out.cell a ha8).trans (congrArg some HF9.out)
            go_simp
            refine hK.out _ _ hHeld (fun hHeld1 => ?_)
            clear hK K hHeld
            have hHeld := hHeld1
            clear hHeld1
            try simp only [Act.put, List.getElem_toArray, List.getElem_cons_succ, List.getElem_cons_zero, List.setIfInBounds_toArray, List.set_cons_zero, List.set_cons_succ]
            clear c7
            refine wpAnyH_ready (rs := [13]) (by kernel_rfl) (by simp) ?_
            refine AllReadyH.cons rfl (fun K hK => ?_) AllReadyH.nil
            refine step_ex rfl _ _ rfl rfl HRO1.out rfl (two_cell HN1.out) (by omega) HE1.out.1.size _ rfl ?_
            intro g8 c8 V2 ho hgr hat hlt8
            have HO8 := Lib.hid ho
            have HGR := Lib.hid hgr
            have HAT := Lib.hid hat
            have HX2 := Lib.hid (HX1.out.grown hgr (by have := own_blk_ne HRO1.out HX1.out (by decide); exact fun q => this q.symm))
            have HT2 := Lib.hid (HE1.out.2.2.1.grown hgr (by have := own_blk_ne HRO1.out HE1.out.2.2.1 (by decide); exact fun q => this q.symm))
            clear ho hgr hat
            refine hK.out _ _ ⟨HX2.out.cell 0, HX2.out.cell 1⟩ (fun hHeld1 => ?_)
            clear hK K hHeld
            have hHeld := hHeld1
            clear hHeld1
            try simp only [Act.put, List.getElem_toArray, List.getElem_cons_succ, List.getElem_cons_zero, List.setIfInBounds_toArray, List.set_cons_zero, List.set_cons_succ]
            refine' wpAnyH_take (i := 14) (v := ?vx26_14) rfl (by kernel_rfl) (by kernel_rfl) (by kernel_rfl) (fun _ _ _ h => h) (Or.inl ⟨by rfl, ?hyx26_14⟩) (by assumption) ?restx26_14
            case hyx26_14 => (intro w hSw; (try dsimp only at hSw); go_simp; try (with_reducible rfl))
            simp only [Act.put, List.getElem_toArray, List.getElem_cons_succ, List.getElem_cons_zero, List.setIfInBounds_toArray, List.set_cons_zero, List.set_cons_succ]
            have t0 := HT2.out.lt
            have t1 := HT2.out.frozen a
            have t2 := (HT2.out.cell a).trans (arr8_get F ha8)
            refine wpAnyH_ready (rs := [15]) (by kernel_rfl) (by simp) ?_
            refine AllReadyH.cons rfl (fun K hK => ?_) AllReadyH.nil
            go_simp
            have HP := Lib.hid (HE1.out.put ha8 HF9.out HL9.out HO8.out HGR.out HAT.out)
            have HXP := Lib.hid (show Blk (V2.setCell ⟨g, a, none⟩ (.slice (some ⟨g8, 0, none⟩) (m9 + 1) c8)) X 51 #[.int .i64 (a : Int), .int .i64 (b : Int), .int .i64 tp, .int .i64 cp, .int .i64 sl] from HX2.out.far (p := ⟨g, a, none⟩) (Blk.ne_ HX2.out HT2.out (by decide)) _)
            refine hK.out _ _ ⟨HXP.out.cell 0, HXP.out.cell 1⟩ (fun hHeld1 => ?_)
            clear hK K hHeld hHeld1
            try simp only [Act.put, List.getElem_toArray, List.getElem_cons_succ, List.getElem_cons_zero, List.setIfInBounds_toArray, List.set_cons_zero, List.set_cons_succ]
            refine wpAnyH_done (by kernel_rfl) ?_ _
            refine hK0 _ _ (Met.intro (hJ0 _ _ ?_))
            (repeat apply Exists.intro)
            exact ⟨⟨_, HP.out, HXP.out⟩, rfl⟩
        case rest =>
          obtain ⟨F1, hE1, hX1⟩ := hcut
          have HEW := Lib.hid hE1
          have HXW := Lib.hid hX1
          obtain ⟨R2, HR2⟩ : ∃ R, Hid (upd R1 a (R1 a ++ [((k : Int), (b : Int))]) = R) := ⟨_, Lib.hid rfl⟩
          have hLN : ∀ s : Nat, (R2 s).length ≤ 25 := fun s => by
            rw [← HR2.out]
            by_cases e : s = a
            · rw [e, upd_same, List.length_append]; have := hLNH.out a; simp; omega
            · rw [upd_ne _ _ e]; have := hLNH.out s; omega
          rw [HR2.out] at HEW HNX
          clear hE1 hX1 HEV HXV
          go_upto_region 7 with fail
          have HE0 := Lib.hid (HEW.out.step (Below.refl _ _).drew)
          have HX0 := Lib.hid (HXW.out.below (Below.refl _ _).drew HXW.out.lt)
          obtain ⟨A9, m9, c9, hF9, hl9, hrow⟩ := HE0.out.row b hb8
          have HROW := Lib.hid hrow
          have HL9 := Lib.hid hl9
          have HF9 := Lib.hid hF9
          have hm9 : m9 ≤ 25 := by rw [← hl9]; exact hLN b
          clear hrow hl9 hF9
          obtain ⟨V0, HV0⟩ : ∃ Z, Hid (wc.drew = Z) := ⟨_, Lib.hid rfl⟩
          rw [HV0.out] at HE0 HX0 HROW
          refine wp_region_held_drew (S := (fun v => v.cell? ⟨X, 0, none⟩ = some (.int .i64 (a : Int)) ∧ v.cell? ⟨X, 1, none⟩ = some (.int .i64 (b : Int)))) (by kernel_rfl) ?_ (fun hHeld => ?_)
          · rw [HV0.out]; exact ⟨HX0.out.cell 0, HX0.out.cell 1⟩
          rw [HV0.out] at hHeld ⊢
          clear HV0
          refine' wpAnyH_take (i := 0) (v := ?vx1_0) rfl (by kernel_rfl) (by kernel_rfl) (by kernel_rfl) (fun _ _ _ h => h) (Or.inl ⟨by rfl, ?hyx1_0⟩) (by assumption) ?restx1_0
          case hyx1_0 => (intro w hSw; (try dsimp only at hSw); go_simp; try (with_reducible rfl))
          simp only [Act.put, List.getElem_toArray, List.getElem_cons_succ, List.getElem_cons_zero, List.setIfInBounds_toArray, List.set_cons_zero, List.set_cons_succ]
          refine' wpAnyH_take (i := 1) (v := ?vx2_1) rfl (by kernel_rfl) (by kernel_rfl) (by kernel_rfl) (fun _ _ _ h => h) (Or.inl ⟨by rfl, ?hyx2_1⟩) (by assumption) ?restx2_1
          case hyx2_1 => (intro w hSw; (try dsimp only at hSw); go_simp; try (with_reducible rfl))
          simp only [Act.put, List.getElem_toArray, List.getElem_cons_succ, List.getElem_cons_zero, List.setIfInBounds_toArray, List.set_cons_zero, List.set_cons_succ]
          refine' wpAnyH_take (i := 2) (v := ?vx3_2) rfl (by kernel_rfl) (by kernel_rfl) (by kernel_rfl) (fun _ _ _ h => h) (Or.inl ⟨by rfl, ?hyx3_2⟩) (by assumption) ?restx3_2
          case hyx3_2 => (intro w hSw; (try dsimp only at hSw); go_simp; try (with_reducible rfl))
          simp only [Act.put, List.getElem_toArray, List.getElem_cons_succ, List.getElem_cons_zero, List.setIfInBounds_toArray, List.set_cons_zero, List.set_cons_succ]
          refine' wpAnyH_take (i := 3) (v := ?vx4_3) rfl (by kernel_rfl) (by kernel_rfl) (by kernel_rfl) (fun _ _ _ h => h) (Or.inl ⟨by rfl, ?hyx4_3⟩) (by assumption) ?restx4_3
          case hyx4_3 => (intro w hSw; (try dsimp only at hSw); go_simp; try (with_reducible rfl))
          simp only [Act.put, List.getElem_toArray, List.getElem_cons_succ, List.getElem_cons_zero, List.setIfInBounds_toArray, List.set_cons_zero, List.set_cons_succ]
          refine' wpAnyH_take (i := 4) (v := ?vx5_4) rfl (by kernel_rfl) (by kernel_rfl) (by kernel_rfl) (fun _ _ _ h => h) (Or.inl ⟨by rfl, ?hyx5_4⟩) (by assumption) ?restx5_4
          case hyx5_4 => (intro w hSw; (try dsimp only at hSw); go_simp; try (with_reducible rfl))
          simp only [Act.put, List.getElem_toArray, List.getElem_cons_succ, List.getElem_cons_zero, List.setIfInBounds_toArray, List.set_cons_zero, List.set_cons_succ]
          refine' wpAnyH_take (i := 5) (v := ?vx6_5) rfl (by kernel_rfl) (by kernel_rfl) (by kernel_rfl) (fun _ _ _ h => h) (Or.inl ⟨by rfl, ?hyx6_5⟩) (by assumption) ?restx6_5
          case hyx6_5 => (intro w hSw; (try dsimp only at hSw); go_simp; try (with_reducible rfl))
          simp only [Act.put, List.getElem_toArray, List.getElem_cons_succ, List.getElem_cons_zero, List.setIfInBounds_toArray, List.set_cons_zero, List.set_cons_succ]
          refine' wpAnyH_take (i := 6) (v := ?vx7_6) rfl (by kernel_rfl) (by kernel_rfl) (by kernel_rfl) (fun _ _ _ h => h) (Or.inl ⟨by rfl, ?hyx7_6⟩) (by assumption) ?restx7_6
          case hyx7_6 => (intro w hSw; (try dsimp only at hSw); go_simp; try (with_reducible rfl))
          simp only [Act.put, List.getElem_toArray, List.getElem_cons_succ, List.getElem_cons_zero, List.setIfInBounds_toArray, List.set_cons_zero, List.set_cons_succ]
          refine' wpAnyH_take (i := 8) (v := ?vx8_8) rfl (by kernel_rfl) (by kernel_rfl) (by kernel_rfl) (fun _ _ _ h => h) (Or.inl ⟨by rfl, ?hyx8_8⟩) (by assumption) ?restx8_8
          case hyx8_8 => (intro w hSw; (try dsimp only at hSw); go_simp; try (with_reducible rfl))
          simp only [Act.put, List.getElem_toArray, List.getElem_cons_succ, List.getElem_cons_zero, List.setIfInBounds_toArray, List.set_cons_zero, List.set_cons_succ]
          refine' wpAnyH_take (i := 9) (v := ?vx9_9) rfl (by kernel_rfl) (by kernel_rfl) (by kernel_rfl) (fun _ _ _ h => h) (Or.inl ⟨by rfl, ?hyx9_9⟩) (by assumption) ?restx9_9
          case hyx9_9 => (intro w hSw; (try dsimp only at hSw); go_simp; try (with_reducible rfl))
          simp only [Act.put, List.getElem_toArray, List.getElem_cons_succ, List.getElem_cons_zero, List.setIfInBounds_toArray, List.set_cons_zero, List.set_cons_succ]
          refine' wpAnyH_take (i := 10) (v := ?vx10_10) rfl (by kernel_rfl) (by kernel_rfl) (by kernel_rfl) (fun _ _ _ h => h) (Or.inl ⟨by rfl, ?hyx10_10⟩) (by assumption) ?restx10_10
          case hyx10_10 => (intro w hSw; (try dsimp only at hSw); go_simp; try (with_reducible rfl))
          simp only [Act.put, List.getElem_toArray, List.getElem_cons_succ, List.getElem_cons_zero, List.setIfInBounds_toArray, List.set_cons_zero, List.set_cons_succ]
          refine' wpAnyH_take (i := 11) (v := ?vx11_11) rfl (by kernel_rfl) (by kernel_rfl) (by kernel_rfl) (fun _ _ _ h => h) (Or.inl ⟨by rfl, ?hyx11_11⟩) (by assumption) ?restx11_11
          case hyx11_11 => (intro w hSw; (try dsimp only at hSw); go_simp; try (with_reducible rfl))
          simp only [Act.put, List.getElem_toArray, List.getElem_cons_succ, List.getElem_cons_zero, List.setIfInBounds_toArray, List.set_cons_zero, List.set_cons_succ]
          refine wpAnyH_ready (rs := [7, 12]) (by kernel_rfl) (by simp) ?_
          refine AllReadyH.cons rfl (fun K hK => ?_) (AllReadyH.cons rfl (fun K hK => ?_) AllReadyH.nil)
          · have c7 := (HE0.out.cell b hb8).trans (congrArg some HF9.out)
            go_simp
            refine hK.out _ _ hHeld (fun hHeld1 => ?_)
            clear hK K hHeld
            have hHeld := hHeld1
            clear hHeld1
            try simp only [Act.put, List.getElem_toArray, List.getElem_cons_succ, List.getElem_cons_zero, List.setIfInBounds_toArray, List.set_cons_zero, List.set_cons_succ]
            clear c7
            refine wpAnyH_ready (rs := [12]) (by kernel_rfl) (by simp) ?_
            refine AllReadyH.cons rfl (fun K hK => ?_) AllReadyH.nil
            obtain ⟨V1, HV1⟩ : ∃ Z, Hid (V0.alloc (.cells #[.int .i64 (k : Int), .int .i64 (a : Int)] 121) = Z) := ⟨_, Lib.hid rfl⟩
            obtain ⟨G1, HG1⟩ : ∃ Z, Hid (V0.heap.size = Z) := ⟨_, Lib.hid rfl⟩
            have HB1 := Lib.hid (show Below V0.heap.size V0 V1 by rw [← HV1.out]; exact (Below.refl _ _).alloc (Nat.le_refl _) _)
            have HE1 := Lib.hid (HE0.out.step HB1.out)
            have HX1 := Lib.hid (HX0.out.below HB1.out HX0.out.lt)
            have HN1 := Lib.hid (show Blk V1 G1 121 #[.int .i64 (k : Int), .int .i64 (a : Int)] by rw [← HV1.out, ← HG1.out]; exact Blk.new _ _ _)
            have HRO1 := Lib.hid (row_below HROW.out HB1.out)
            have hhb : ((V0.alloc (.cells #[.int .i64 (k : Int), .int .i64 (a : Int)] 121)).cell? ⟨X, 0, none⟩ = some (.int .i64 (a : Int)) ∧ (V0.alloc (.cells #[.int .i64 (k : Int), .int .i64 (a : Int)] 121)).cell? ⟨X, 1, none⟩ = some (.int .i64 (b : Int))) := by rw [HV1.out]; exact ⟨HX1.out.cell 0, HX1.out.cell 1⟩
            go_simp
            refine hK.out _ _ hhb (fun hHeld1 => ?_)
            clear hhb
            clear hK K hHeld
            have hHeld := hHeld1
            clear hHeld1
            try simp only [Act.put, List.getElem_toArray, List.getElem_cons_succ, List.getElem_cons_zero, List.setIfInBounds_toArray, List.set_cons_zero, List.set_cons_succ]
            rw [HV1.out] at hHeld
            try rw [HG1.out]
            try simp only [HG1.out]
            rw [HV1.out]
            clear HV1
            refine wpAnyH_ready (rs := [13]) (by kernel_rfl) (by simp) ?_
            refine AllReadyH.cons rfl (fun K hK => ?_) AllReadyH.nil
            refine step_ex rfl _ _ rfl rfl HRO1.out rfl (two_cell HN1.out) (by omega) HE1.out.1.size _ rfl ?_
            intro g8 c8 V2 ho hgr hat hlt8
            have HO8 := Lib.hid ho
            have HGR := Lib.hid hgr
            have HAT := Lib.hid hat
            have HX2 := Lib.hid (HX1.out.grown hgr (by have := own_blk_ne HRO1.out HX1.out (by decide); exact fun q => this q.symm))
            have HT2 := Lib.hid (HE1.out.2.2.1.grown hgr (by have := own_blk_ne HRO1.out HE1.out.2.2.1 (by decide); exact fun q => this q.symm))
            clear ho hgr hat
            refine hK.out _ _ ⟨HX2.out.cell 0, HX2.out.cell 1⟩ (fun hHeld1 => ?_)
            clear hK K hHeld
            have hHeld := hHeld1
            clear hHeld1
            try simp only [Act.put, List.getElem_toArray, List.getElem_cons_succ, List.getElem_cons_zero, List.setIfInBounds_toArray, List.set_cons_zero, List.set_cons_succ]
            refine' wpAnyH_take (i := 14) (v := ?vx12_14) rfl (by kernel_rfl) (by kernel_rfl) (by kernel_rfl) (fun _ _ _ h => h) (Or.inl ⟨by rfl, ?hyx12_14⟩) (by assumption) ?restx12_14
            case hyx12_14 => (intro w hSw; (try dsimp only at hSw); go_simp; try (with_reducible rfl))
            simp only [Act.put, List.getElem_toArray, List.getElem_cons_succ, List.getElem_cons_zero, List.setIfInBounds_toArray, List.set_cons_zero, List.set_cons_succ]
            have t0 := HT2.out.lt
            have t1 := HT2.out.frozen b
            have t2 := (HT2.out.cell b).trans (arr8_get F1 hb8)
            refine wpAnyH_ready (rs := [15]) (by kernel_rfl) (by simp) ?_
            refine AllReadyH.cons rfl (fun K hK => ?_) AllReadyH.nil
            go_simp
            have HP := Lib.hid (HE1.out.put hb8 HF9.out HL9.out HO8.out HGR.out HAT.out)
            have HXP := Lib.hid (show Blk (V2.setCell ⟨g, b, none⟩ (.slice (some ⟨g8, 0, none⟩) (m9 + 1) c8)) X 51 #[.int .i64 (a : Int), .int .i64 (b : Int), .int .i64 tp, .int .i64 cp, .int .i64 sl] from HX2.out.far (p := ⟨g, b, none⟩) (Blk.ne_ HX2.out HT2.out (by decide)) _)
            refine hK.out _ _ ⟨HXP.out.cell 0, HXP.out.cell 1⟩ (fun hHeld1 => ?_)
            clear hK K hHeld hHeld1
            try simp only [Act.put, List.getElem_toArray, List.getElem_cons_succ, List.getElem_cons_zero, List.setIfInBounds_toArray, List.set_cons_zero, List.set_cons_succ]
            refine wpAnyH_done (by kernel_rfl) ?_ _
            clear HE0 HE1 HX0 HX1 HX2 HN1 HROW HRO1 HT2 HO8 HGR HAT t0 t1 t2
            go_wp2_with fail
            go_roundw
            case rel => exact ⟨k + 1, _, by omega, by go_num, HP.out.congr (fun s hs => (HNX.out s hs))⟩
            case measure => simp [intOf]; omega
          · obtain ⟨V1, HV1⟩ : ∃ Z, Hid (V0.alloc (.cells #[.int .i64 (k : Int), .int .i64 (a : Int)] 121) = Z) := ⟨_, Lib.hid rfl⟩
            obtain ⟨G1, HG1⟩ : ∃ Z, Hid (V0.heap.size = Z) := ⟨_, Lib.hid rfl⟩
            have HB1 := Lib.hid (show Below V0.heap.size V0 V1 by rw [← HV1.out]; exact (Below.refl _ _).alloc (Nat.le_refl _) _)
            have HE1 := Lib.hid (HE0.out.step HB1.out)
            have HX1 := Lib.hid (HX0.out.below HB1.out HX0.out.lt)
            have HN1 := Lib.hid (show Blk V1 G1 121 #[.int .i64 (k : Int), .int .i64 (a : Int)] by rw [← HV1.out, ← HG1.out]; exact Blk.new _ _ _)
            have HRO1 := Lib.hid (row_below HROW.out HB1.out)
            have hhb : ((V0.alloc (.cells #[.int .i64 (k : Int), .int .i64 (a : Int)] 121)).cell? ⟨X, 0, none⟩ = some (.int .i64 (a : Int)) ∧ (V0.alloc (.cells #[.int .i64 (k : Int), .int .i64 (a : Int)] 121)).cell? ⟨X, 1, none⟩ = some (.int .i64 (b : Int))) := by rw [HV1.out]; exact ⟨HX1.out.cell 0, HX1.out.cell 1⟩
            go_simp
            refine hK.out _ _ hhb (fun hHeld1 => ?_)
            clear hhb
            clear hK K hHeld
            have hHeld := hHeld1
            clear hHeld1
            try simp only [Act.put, List.getElem_toArray, List.getElem_cons_succ, List.getElem_cons_zero, List.setIfInBounds_toArray, List.set_cons_zero, List.set_cons_succ]
            rw [HV1.out] at hHeld
            try rw [HG1.out]
            try simp only [HG1.out]
            rw [HV1.out]
            clear HV1
            refine wpAnyH_ready (rs := [7]) (by kernel_rfl) (by simp) ?_
            refine AllReadyH.cons rfl (fun K hK => ?_) AllReadyH.nil
            have c7 := (HE1.out.cell b hb8).trans (congrArg some HF9.out)
            go_simp
            refine hK.out _ _ hHeld (fun hHeld1 => ?_)
            clear hK K hHeld
            have hHeld := hHeld1
            clear hHeld1
            try simp only [Act.put, List.getElem_toArray, List.getElem_cons_succ, List.getElem_cons_zero, List.setIfInBounds_toArray, List.set_cons_zero, List.set_cons_succ]
            clear c7
            refine wpAnyH_ready (rs := [13]) (by kernel_rfl) (by simp) ?_
            refine AllReadyH.cons rfl (fun K hK => ?_) AllReadyH.nil
            refine step_ex rfl _ _ rfl rfl HRO1.out rfl (two_cell HN1.out) (by omega) HE1.out.1.size _ rfl ?_
            intro g8 c8 V2 ho hgr hat hlt8
            have HO8 := Lib.hid ho
            have HGR := Lib.hid hgr
            have HAT := Lib.hid hat
            have HX2 := Lib.hid (HX1.out.grown hgr (by have := own_blk_ne HRO1.out HX1.out (by decide); exact fun q => this q.symm))
            have HT2 := Lib.hid (HE1.out.2.2.1.grown hgr (by have := own_blk_ne HRO1.out HE1.out.2.2.1 (by decide); exact fun q => this q.symm))
            clear ho hgr hat
            refine hK.out _ _ ⟨HX2.out.cell 0, HX2.out.cell 1⟩ (fun hHeld1 => ?_)
            clear hK K hHeld
            have hHeld := hHeld1
            clear hHeld1
            try simp only [Act.put, List.getElem_toArray, List.getElem_cons_succ, List.getElem_cons_zero, List.setIfInBounds_toArray, List.set_cons_zero, List.set_cons_succ]
            refine' wpAnyH_take (i := 14) (v := ?vx13_14) rfl (by kernel_rfl) (by kernel_rfl) (by kernel_rfl) (fun _ _ _ h => h) (Or.inl ⟨by rfl, ?hyx13_14⟩) (by assumption) ?restx13_14
            case hyx13_14 => (intro w hSw; (try dsimp only at hSw); go_simp; try (with_reducible rfl))
            simp only [Act.put, List.getElem_toArray, List.getElem_cons_succ, List.getElem_cons_zero, List.setIfInBounds_toArray, List.set_cons_zero, List.set_cons_succ]
            have t0 := HT2.out.lt
            have t1 := HT2.out.frozen b
            have t2 := (HT2.out.cell b).trans (arr8_get F1 hb8)
            refine wpAnyH_ready (rs := [15]) (by kernel_rfl) (by simp) ?_
            refine AllReadyH.cons rfl (fun K hK => ?_) AllReadyH.nil
            go_simp
            have HP := Lib.hid (HE1.out.put hb8 HF9.out HL9.out HO8.out HGR.out HAT.out)
            have HXP := Lib.hid (show Blk (V2.setCell ⟨g, b, none⟩ (.slice (some ⟨g8, 0, none⟩) (m9 + 1) c8)) X 51 #[.int .i64 (a : Int), .int .i64 (b : Int), .int .i64 tp, .int .i64 cp, .int .i64 sl] from HX2.out.far (p := ⟨g, b, none⟩) (Blk.ne_ HX2.out HT2.out (by decide)) _)
            refine hK.out _ _ ⟨HXP.out.cell 0, HXP.out.cell 1⟩ (fun hHeld1 => ?_)
            clear hK K hHeld hHeld1
            try simp only [Act.put, List.getElem_toArray, List.getElem_cons_succ, List.getElem_cons_zero, List.setIfInBounds_toArray, List.set_cons_zero, List.set_cons_succ]
            refine wpAnyH_done (by kernel_rfl) ?_ _
            clear HE0 HE1 HX0 HX1 HX2 HN1 HROW HRO1 HT2 HO8 HGR HAT t0 t1 t2
            go_wp2_with fail
            go_roundw
            case rel => exact ⟨k + 1, _, by omega, by go_num, HP.out.congr (fun s hs => (HNX.out s hs))⟩
            case measure => simp [intOf]; omega
    · have hkd : decide (k < n) = false := by simpa using hlt
      obtain rfl : k = n := by omega
      have HFIN := Lib.hid (show ExAt wr wr.heap.size g (fun s => exR ts bs ts.length (s.toNat : Int)) by
        rw [HL.out]
        exact HE.out.at_ (fun s hs => Nat.le_trans (exR_len ts bs s k) (by omega)))
      clear hlt
      go_wp2_with fail
      go_ret
      exact ⟨g, rfl, HE.out.1, HFIN.out⟩
#print axioms exits_any
end Go.Proofs.YtkeepfkjhcmhlaaDoor.lpi
