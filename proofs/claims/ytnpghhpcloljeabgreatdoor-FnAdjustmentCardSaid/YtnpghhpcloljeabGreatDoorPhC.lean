/-
  IsBalanced, by the program.
  Conditions: the legs lie in one block, at most 2000000 of them; the coordinates lie in one block; the variable holds the table of the sines.
-/
import Derived.Test.YtnpghhpcloljeabGreatDoorPhB
import Derived.ChangeKeysEq
namespace Go.Proofs.YtnpghhpcloljeabGreatDoor.phb
open Go.RowKit
open reads base ty lg lgi win hs nt nq rowi sn mt ml dt pg inn
set_option linter.unusedVariables false
set_option linter.unusedSimpArgs false

def spA (ts : List Lg) (ax : Int) (cs : List Int) (den : Int) (k : Nat) : Nat → Int := (List.range k).foldl (fun f (i : Nat) => bal1 (lgAt ts (i : Int)) (rsF ts ax cs den (plIds ts) i) f) (fun _ => 0)
theorem spA_step (ts : List Lg) (ax : Int) (cs : List Int) (den : Int) (k : Nat) : spA ts ax cs den (k + 1) = bal1 (lgAt ts (k : Int)) (rsF ts ax cs den (plIds ts) k) (spA ts ax cs den k) := by
  unfold spA; rw [List.range_succ, List.foldl_append]; rfl
theorem bal1_zero (x : Lg) (f : Nat → Int) : bal1 x 0 f = f := by
  funext s
  unfold bal1 upd
  split
  · rename_i e; subst e; split
    · rename_i e; rw [e]; omega
    · omega
  · split
    · rename_i e; rw [e]; omega
    · rfl
theorem spA_end (ts : List Lg) (ax : Int) (cs : List Int) (den : Int) : spA ts ax cs den ts.length = spU ts ax cs den (plIds ts) := by
  have key : ∀ k, k ≤ ts.length → spA ts ax cs den k = spU ts ax cs den (plN ts k) := by
    intro k hk
    induction k with
    | zero => rfl
    | succ k ih =>
      have ih := ih (by omega)
      obtain ⟨x, hx⟩ := at_lt rfl (show k < ts.length by omega)
      rw [spA_step, ih]
      cases q : mem (net ts).ps x.frm
      · rw [show plN ts (k + 1) = plN ts k from rowi.idxs_no hx q]
        have hn : ¬ (k : Int) ∈ plIds ts := fun z => by
          obtain ⟨j, e, y, hy, hm⟩ := plIds_at z
          obtain rfl : k = j := by omega
          rw [hx] at hy
          obtain rfl := Option.some.inj hy
          rw [q] at hm; cases hm
        rw [show rsF ts ax cs den (plIds ts) k = 0 by unfold rsF; rw [if_neg hn], bal1_zero]
      · rw [show plN ts (k + 1) = plN ts k ++ [(k : Int)] from rowi.idxs_yes hx q]
        rw [show rsF ts ax cs den (plIds ts) k = rsV (lgAt ts (k : Int)) ax cs den by unfold rsF; rw [if_pos (pl_all hx q)]]
        unfold spU
        rw [List.foldl_append]
        rfl
  exact key ts.length (Nat.le_refl _)
theorem rsF_bd {ts : List Lg} (hg : goodLg ts = true) {ax : Int} {cs : List Int} {den : Int} (hc : CBd cs) (hd : -1000000 ≤ den ∧ den ≤ 1000000) (i : Nat) : -4500000000 ≤ rsF ts ax cs den (plIds ts) i ∧ rsF ts ax cs den (plIds ts) i ≤ 4500000000 := by
  unfold rsF
  split
  · rename_i q
    obtain ⟨j, e, x, hx, -⟩ := plIds_at q
    rw [e, lgAt_is hx]
    exact rsV_bd (goodLg_at hg hx) hc hd
  · omega
theorem spA_bd {ts : List Lg} (hg : goodLg ts = true) {ax : Int} {cs : List Int} {den : Int} (hc : CBd cs) (hd : -1000000 ≤ den ∧ den ≤ 1000000) : ∀ (k : Nat) (s : Nat), -(9000000000 * (k : Int)) ≤ spA ts ax cs den k s ∧ spA ts ax cs den k s ≤ 9000000000 * (k : Int)
  | 0, s => by simp [spA]
  | k + 1, s => by
    rw [spA_step]
    have := bal1_bd (x := lgAt ts (k : Int)) (spA_bd (ax := ax) hg hc hd k) (rsF_bd (ax := ax) hg hc hd k) s
    omega
theorem rsL_el {ts : List Lg} {ax : Int} {cs : List Int} {den : Int} {k : Nat} (h : k < ts.length) : (rsL ts ax cs den)[k]? = some (rsF ts ax cs den (plIds ts) k) := by
  unfold rsL; rw [List.getElem?_map, List.getElem?_range h]; rfl
theorem und8 : Tryz.prog.underlying 84 = some (.array 8 3) := by kernel_rfl
theorem undI : Tryz.prog.underlying 3 = some (.int .i64) := by kernel_rfl
theorem eq_int (d : Nat) (a b : Int) (w : World) : (Op.equalIn (d + 1) 3 (.int .i64 a) (.int .i64 b)).run Tryz.prog w = .ok (a == b) w := by
  simp [Op.equalIn, run_underlying undI]
theorem item_eq (d : Nat) (xs ys : Array Value) (j : Nat) (is : List Nat) (a b : Int) (w : World) (hx : xs[j]? = some (.int .i64 a)) (hy : ys[j]? = some (.int .i64 b)) :
    (Op.eqItems (d + 1) 3 1 xs ys (j :: is)).run Tryz.prog w = if (a == b) = true then (Op.eqItems (d + 1) 3 1 xs ys is).run Tryz.prog w else .ok false w := by
  have pk : Tryz.prog.plainKey 3 = true := by kernel_rfl
  simp only [Op.eqItems, Sem.run_bind, Nat.mul_one]
  rw [run_part_plain w pk hx]
  simp only [Result.andThen_ok]
  rw [run_part_plain w pk hy]
  simp only [Result.andThen_ok]
  rw [eq_int]
  simp only [Result.andThen_ok]
  cases h : (a == b) <;> simp
theorem items_eq (d : Nat) (f : Nat → Int) (w : World) : ∀ is : List Nat, (∀ j ∈ is, j < 8) → (Op.eqItems (d + 1) 3 1 (cs1 8 f) (cs1 8 (fun _ => 0)) is).run Tryz.prog w = .ok (is.all (fun j => f j == 0)) w
  | [], _ => by simp [Op.eqItems]
  | j :: is, h => by
    rw [item_eq d _ _ j is (f j) 0 w (cs1_at f (h j (List.mem_cons_self ..))) (cs1_at _ (h j (List.mem_cons_self ..))), items_eq d f w is (fun i hi => h i (List.mem_cons_of_mem _ hi))]
    cases e : (f j == 0) <;> simp [e]
theorem eq_arr (f : Nat → Int) (w : World) : (Op.equalIn 10000 84 (.agg (cs1 8 f)) (.agg (cs1 8 (fun _ => 0)))).run Tryz.prog w = .ok (azero f) w := by
  obtain ⟨i, hi⟩ : ∃ i, Tryz.prog.info? 3 = some i := by
    have h : (Tryz.prog.info? 3).isSome = true := by kernel_rfl
    exact Option.isSome_iff_exists.1 h
  have hc : Tryz.prog.cellsOf 3 = 1 := by kernel_rfl
  rw [show (10000 : Nat) = 9999 + 1 from rfl, run_equalIn_array w 9999 _ _ und8 hi, hc]
  exact items_eq 9998 f w (List.range 8) (fun j hj => List.mem_range.1 hj)
set_option maxHeartbeats 4000000 in
theorem coords_any (A2 : Option Addr) (n2 c2 : Nat) (cs : List Int) (b : Bool) (w : World) (hn2 : n2 ≤ 2000000) (hb : Hid (cOk cs = b)) (hcs : Hid (InAt w w.heap.size A2 n2 cs)) :
    Calls Tryz.prog 72 #[.slice A2 n2 c2] w fun e w' => e = .returned (.bool b) ∧ w = w' := by
  have HCL := Lib.hid hcs.out.1
  by_cases h8 : n2 = 8
  · subst h8
    obtain ⟨x, hx⟩ := at_lt HCL.out (show 0 < 8 by decide)
    obtain ⟨g, rfl, -, -⟩ := hcs.out.2 0 x hx
    have HI := Lib.hid (show IntsAt w g cs from fun k y hy => by
      obtain ⟨g', e, -, h0⟩ := hcs.out.2 k y hy
      obtain rfl : g = g' := by injection e with e; injection e
      exact h0)
    have HA := Lib.hid (show allIn (-100000000) 100000000 cs = b by have := hb.out; unfold cOk at this; rw [decide_eq_true HCL.out] at this; simpa using this)
    clear hx
    go_enter Tryz.func72, Tryz.ntmps72
    go_wp2_with fail
    refine (within_any (-100000000) 100000000 g 8 c2 cs w HCL (by decide) HI).mono ?_
    rintro e w9 ⟨rfl, rfl⟩
    rw [HA.out]
    go_wp2_with fail
    go_ret
    exact ⟨rfl, rfl⟩
  · have HB := Lib.hid (show b = false by rw [← hb.out]; unfold cOk; rw [HCL.out, decide_eq_false h8]; rfl)
    have z1 : ((n2 : Int) == 8) = false := by simp; omega
    have z2 : decide ((n2 : Int) = 8) = false := by simp; omega
    have z3 : decide (n2 = 8) = false := by simp; omega
    go_enter Tryz.func72, Tryz.ntmps72
    go_wp2_with fail
    go_ret
    exact ⟨by rw [HB.out]; rfl, rfl⟩
/-- an array of a number for each station -/
def ArB (w : World) (p : Nat) (f : Nat → Int) : Prop := Blk w p 84 (cs1 8 f)
theorem ArB.at_ {w : World} {p : Nat} {f : Nat → Int} (h : ArB w p f) {j : Nat} (hj : j < 8) : w.cell? ⟨p, j, none⟩ = some (.int .i64 (f j)) := by rw [Blk.cell h, cs1_at f hj]
theorem ArB.fro {w : World} {p : Nat} {f : Nat → Int} (h : ArB w p f) (j : Nat) : w.frozen? ⟨p, j, none⟩ = false := Blk.frozen h j
theorem ArB.lt {w : World} {p : Nat} {f : Nat → Int} (h : ArB w p f) : p < w.heap.size := Blk.lt h
theorem ArB.set {w : World} {p : Nat} {f : Nat → Int} (h : ArB w p f) {j : Nat} (hj : j < 8) (x : Int) : ArB (w.setCell ⟨p, j, none⟩ (.int .i64 x)) p (upd f j x) := by
  have := Blk.set_ h j (.int .i64 x)
  rw [cs1_set f x hj] at this; exact this
theorem ArB.below {w w' : World} {p : Nat} {f : Nat → Int} (h : ArB w p f) {B : Nat} (hb : Below B w w') (hp : p < B) : ArB w' p f := Blk.below h hb hp
set_option maxHeartbeats 16000000 in
set_option maxRecDepth 100000 in
theorem balanced_impl (A : Option Addr) (n cap : Nat) (ts : List Lg) (ax : Int) (A2 : Option Addr) (n2 c2 : Nat) (cs : List Int) (den : Int) (w : World) (hn : n ≤ 2000000) (hn2 : n2 ≤ 2000000) (hts : Hid (LgAt w w.heap.size A n ts)) (hcs : Hid (InAt w w.heap.size A2 n2 cs)) (hT : Hid (Tab w)) :
    Calls Tryz.prog 16 #[.slice A n cap, .int .i64 ax, .slice A2 n2 c2, .int .i64 den] w (APost (ansBl ts ax cs den) w) := by
  have HL := Lib.hid hts.out.1
  have HCL := Lib.hid hcs.out.1
  obtain ⟨C, HC⟩ : ∃ C, Hid (nv (netS ts) (clS ts) = C) := ⟨_, Lib.hid rfl⟩
  have hcz : C.size = 56 := by rw [← HC.out]; exact nv_size (nok_S ts)
  have HC1 := Lib.hid (show C.all (·.oneCell') = true by rw [← HC.out]; exact nv_one)
  obtain ⟨g, HG⟩ : ∃ g, Hid (goodLg ts = g) := ⟨_, Lib.hid rfl⟩
  obtain ⟨p, HP⟩ : ∃ g, Hid (btw 0 ax 2 = g) := ⟨_, Lib.hid rfl⟩
  obtain ⟨co, HCO⟩ : ∃ g, Hid (cOk cs = g) := ⟨_, Lib.hid rfl⟩
  obtain ⟨dn, HDN⟩ : ∃ g, Hid (btw 1 den 100000 = g) := ⟨_, Lib.hid rfl⟩
  have HIN := Lib.hid (one_in HDN.out)
  have HAN := Lib.hid (show ansBl ts ax cs den = if (g && p) && (co && dn) then .tuple #[.bool (decide (cat cs 0 = 0) && azero (spU ts ax cs den (plIds ts))), .bool true] else .tuple #[.bool false, .bool false] by
    unfold ansBl axOk; rw [HG.out, HP.out, HCO.out, HDN.out])
  go_enter Tryz.func16, Tryz.ntmps16
  go_wp2_with fail
  refine (net_any A n cap ts C g HC HG _ hn hts hT).mono ?_
  rintro e w1 ⟨rfl, b1⟩
  have HB1 := Lib.hid b1
  clear b1
  have hst := lay_net hcz HC1.out w1
  have HB2 := Lib.hid (HB1.out.alloc HB1.out.size (.cells C 76))
  have HG2 := Lib.hid (Blk.new w1 76 C)
  go_upto_region 2 with fail
  clear hst
  obtain ⟨W, HW⟩ : ∃ W, Hid (w1.alloc (.cells C 76) = W) := ⟨_, Lib.hid rfl⟩
  obtain ⟨G, HGG⟩ : ∃ q, Hid (w1.heap.size = q) := ⟨_, Lib.hid rfl⟩
  rw [HGG.out] at HG2
  rw [HW.out] at HB2 HG2 ⊢
  try simp only [HGG.out]
  clear HW HB1 HGG
  cases g
  · go_wp2_with fail
    go_ret2
    exact ⟨by rw [HAN.out]; rfl, HB2.out⟩
  go_wp2_with fail
  refine (isAxis_any ax p _ HP).mono ?_
  rintro e w5 ⟨rfl, b5⟩
  have HB5 := Lib.hid (HB2.out.trans (b5.mono HB2.out.size))
  have HG5 := Lib.hid (HG2.out.below b5 HG2.out.lt)
  clear b5 HB2 HG2
  cases p
  · go_wp2_with fail
    go_ret2
    exact ⟨by rw [HAN.out]; rfl, HB5.out⟩
  go_wp2_with fail
  refine (coords_any A2 n2 c2 cs co _ hn2 HCO (Lib.hid (hcs.out.step HB5.out))).mono ?_
  rintro e w6 ⟨rfl, rfl⟩
  cases co
  · go_wp2_with fail
    go_ret2
    exact ⟨by rw [HAN.out]; rfl, HB5.out⟩
  go_wp2_with fail
  refine (within_new 1 100000 1 [den] 1 3 _ dn w5 _ rfl rfl (by decide) rfl HIN.out).mono ?_
  rintro e w9 ⟨rfl, rfl⟩
  simp only [List.map_cons, List.map_nil]
  have HB6 := Lib.hid (HB5.out.alloc HB5.out.size (.cells #[.int .i64 den] 3))
  have HG6 := Lib.hid (HG5.out.alloc (.cells #[.int .i64 den] 3))
  cases dn
  · go_wp2_with fail
    go_ret2
    exact ⟨by rw [HAN.out]; rfl, HB6.out⟩
  have hax := btw_yes HP.out
  have hden := btw_yes HDN.out
  have hd : -1000000 ≤ den ∧ den ≤ 1000000 := by omega
  have HCC := Lib.hid (show cs.length = 8 ∧ allIn (-100000000) 100000000 cs = true by have := HCO.out; unfold cOk at this; rw [Bool.and_eq_true] at this; exact ⟨by simpa using this.1, this.2⟩)
  have HCB := Lib.hid (cOk_bd HCC.out.1 HCC.out.2)
  obtain rfl : n2 = 8 := by rw [← HCL.out]; exact HCC.out.1
  have HCN := Lib.hid (show nv (net ts) (clS ts) = C by rw [← HC.out]; unfold netS; rw [HG.out]; rfl)
  have hcl12 : (clS ts).length = 12 := (nok_S ts).2
  go_upto_region 4 with fail
  obtain ⟨V, HV⟩ : ∃ W, Hid (w5.alloc (.cells #[.int .i64 den] 3) = W) := ⟨_, Lib.hid rfl⟩
  rw [HV.out] at HB6 HG6 ⊢
  clear HV HB5 HG5
  go_upto_region 5 with fail
  obtain ⟨W7, HW7⟩ : ∃ W, Hid (V.alloc (.cells #[.int .i64 0, .int .i64 0, .int .i64 0, .int .i64 0, .int .i64 0, .int .i64 0, .int .i64 0, .int .i64 0] 84) = W) := ⟨_, Lib.hid rfl⟩
  obtain ⟨Sb, HSb⟩ : ∃ q, Hid (V.heap.size = q) := ⟨_, Lib.hid rfl⟩
  have HS7 := Lib.hid (show ArB W7 Sb (fun _ => 0) by rw [← HW7.out, ← HSb.out]; exact Blk.new _ _ _)
  have HB7 := Lib.hid (HB6.out.alloc HB6.out.size (.cells #[.int .i64 0, .int .i64 0, .int .i64 0, .int .i64 0, .int .i64 0, .int .i64 0, .int .i64 0, .int .i64 0] 84))
  have HG7 := Lib.hid (HG6.out.alloc (.cells #[.int .i64 0, .int .i64 0, .int .i64 0, .int .i64 0, .int .i64 0, .int .i64 0, .int .i64 0, .int .i64 0] 84))
  have hwS : w.heap.size ≤ Sb := by rw [← HSb.out]; exact HB6.out.size
  rw [HW7.out] at HB7 HG7 ⊢
  try simp only [HSb.out]
  clear HW7 HSb HB6 HG6
  refine wp_region_list ?_
  refine step_move _ rfl _ rfl _ rfl ?_
  simp only [Act.put, List.getElem_toArray, List.getElem_cons_succ, List.getElem_cons_zero, List.setIfInBounds_toArray, List.set_cons_zero, List.set_cons_succ]
  refine step_load _ rfl _ rfl G _ rfl HG7.out hcz ?_
  simp only [Act.put, List.getElem_toArray, List.getElem_cons_succ, List.getElem_cons_zero, List.setIfInBounds_toArray, List.set_cons_zero, List.set_cons_succ]
  go_wp2_with fail
  refine (residuals_any A n cap ts (clS ts) C ax den A2 c2 cs _ hax.1 hax.2 hd HCB (Lib.hid ((In_IO hcs.out).step HB7.out)) HCN hcl12 HG (Lib.hid (hts.out.step HB7.out)) (Lib.hid (hT.out.below HB7.out))).mono ?_
  rintro e w8 ⟨vR, rfl, hOR, b8⟩
  rw [rsL_len, HL.out] at hOR
  obtain ⟨AR, cR, rfl⟩ := row_slice hOR
  have HUG := Lib.hid (own_ne hOR HS7.out.lt)
  have HRO := Lib.hid (IO.of_own hOR)
  have HS8 := Lib.hid (HS7.out.below b8 HS7.out.lt)
  have HB8 := Lib.hid (HB7.out.trans (b8.mono HB7.out.size))
  have hn12 := len12 HL.out HG.out
  clear hOR b8 HS7 HB7 HG7
  go_wp2_with fail
  go_loopw [46] (fun i wr => ∃ k : Nat, k ≤ n ∧ i = .int .i64 (k : Nat) ∧ ArB wr Sb (spA ts ax cs den k) ∧ IO wr wr.heap.size AR n (rsL ts ax cs den) ∧ Below w.heap.size w wr) (fun i _ => n - (intOf i).toNat)
  case atStart => exact ⟨0, Nat.zero_le _, rfl, HS8.out, HRO.out, HB8.out⟩
  case round =>
    obtain ⟨k, hk, rfl, hS, hR, hB⟩ := hrel
    have HSQ := Lib.hid hS
    have HRQ := Lib.hid hR
    have HBQ := Lib.hid hB
    clear hR hS hB HS8 HRO HB8
    have hk0 : (0 : Int) ≤ (k : Int) := by omega
    by_cases hlt : k < n
    · have hki : (k : Int) < (n : Int) := by omega
      have hkd : decide (k < n) = true := by simpa using hlt
      obtain ⟨⟨fr, tt, tp, cm, sl⟩, hx⟩ := at_lt HL.out hlt
      have HOX := Lib.hid (goodLg_at HG.out hx)
      obtain ⟨⟨f0, f7⟩, ⟨t0, t7⟩, -⟩ := okLg_lim HOX.out
      simp only [] at f0 f7 t0 t7
      obtain ⟨f, rfl⟩ : ∃ f : Nat, fr = f := ⟨fr.toNat, by omega⟩
      obtain ⟨t, rfl⟩ : ∃ t : Nat, tt = t := ⟨tt.toNat, by omega⟩
      have hf8 : f < 8 := by omega
      have ht8 : t < 8 := by omega
      have hfi : (f : Int) < 8 := by omega
      have hti : (t : Int) < 8 := by omega
      have hf0 : (0 : Int) ≤ (f : Int) := by omega
      have ht0 : (0 : Int) ≤ (t : Int) := by omega
      have hbr := rsF_bd (ax := ax) HG.out HCB.out hd k
      have hbF := spA_bd (ax := ax) HG.out HCB.out hd k
      have HSTP := Lib.hid (spA_step ts ax cs den k)
      have hrl := rsL_el (ax := ax) (cs := cs) (den := den) (show k < ts.length by rw [HL.out]; exact hlt)
      obtain ⟨F, HFF⟩ : ∃ q, Hid (spA ts ax cs den k = q) := ⟨_, Lib.hid rfl⟩
      obtain ⟨r, HRV⟩ : ∃ q, Hid (rsF ts ax cs den (plIds ts) k = q) := ⟨_, Lib.hid rfl⟩
      rw [HRV.out] at hbr hrl
      rw [HFF.out] at hbF HSQ
      obtain ⟨G2, HGG⟩ : ∃ q, Hid (upd F t (F t + r) = q) := ⟨_, Lib.hid rfl⟩
      have HST := Lib.hid (show spA ts ax cs den (k + 1) = upd G2 f (G2 f - r) by
        rw [HSTP.out, HFF.out, lgAt_is hx, HRV.out, ← HGG.out]; rfl)
      have hbG := upd_bd (K := 9000000000 * (k : Int) + 4500000000) (f := F) (fun s => by have := hbF s; omega) (j := t) (v := F t + r) (by have := hbF t; omega) f
      rw [HGG.out] at hbG
      have bFt := hbF t
      have x1 : IntKind.i64.wrap (F t + r) = F t + r := IntWalk.i64_in _ (by omega)
      have x2 : IntKind.i64.wrap (G2 f - r) = G2 f - r := IntWalk.i64_in _ (by omega)
      obtain ⟨gR, oR, rfl, hgR, eR⟩ := HRQ.out.2 k _ hrl
      obtain ⟨gL, rfl, hgL, e0, e1, e2, e3, e4⟩ := (hts.out.below HBQ.out).2 k _ hx
      simp only [] at e0 e1 e2 e3 e4
      have hLS : ¬ gL = Sb := by omega
      have d1 := HSQ.out.at_ ht8
      have fz1 := HSQ.out.fro t
      have lr1 := HSQ.out.lt
      clear hx hrl f0 f7 t0 t7 hbr hbF hbG bFt HSTP e2 e3 e4
      have HS1 := Lib.hid (HSQ.out.set ht8 (F t + r))
      have HR1 := Lib.hid (IO_far HRQ.out HUG.out t (.int .i64 (F t + r)))
      have HB1 := Lib.hid (HBQ.out.setCell (p := ⟨Sb, t, none⟩) hwS (.int .i64 (F t + r)))
      have e0' := (World.cell?_setCell_other wr ⟨Sb, t, none⟩ _ (.int .i64 (F t + r)) (fun z => by injection z with z1 _; exact hLS z1.symm)).trans e0
      rw [HGG.out] at HS1
      go_upto_region 9 with fail
      obtain ⟨W1, HW1⟩ : ∃ W, Hid (wr.setCell ⟨Sb, t, none⟩ (.int .i64 (F t + r)) = W) := ⟨_, Lib.hid rfl⟩
      rw [HW1.out] at HS1 HR1 HB1 e0' ⊢
      clear HW1 e0 e1 d1 fz1 lr1 eR hgR HSQ HRQ HBQ
      have d2 := HS1.out.at_ hf8
      have fz2 := HS1.out.fro f
      have lr2 := HS1.out.lt
      have HS2 := Lib.hid (HS1.out.set hf8 (G2 f - r))
      have HR2 := Lib.hid (IO_far HR1.out HUG.out f (.int .i64 (G2 f - r)))
      have HB2 := Lib.hid (HB1.out.setCell (p := ⟨Sb, f, none⟩) hwS (.int .i64 (G2 f - r)))
      clear HS1 HR1 HB1
      go_wp2_with fail
      go_roundw
      case rel => exact ⟨k + 1, by omega, by go_num, by rw [HST.out]; exact HS2.out, HR2.out, HB2.out⟩
      case measure => simp [intOf]; omega
    · have hkd : decide (k < n) = false := by simpa using hlt
      obtain rfl : k = n := by omega
      have HEND := Lib.hid (show spA ts ax cs den k = spU ts ax cs den (plIds ts) by rw [← spA_end, HL.out])
      rw [HEND.out] at HSQ
      obtain ⟨F, HFF⟩ : ∃ q, Hid (spU ts ax cs den (plIds ts) = q) := ⟨_, Lib.hid rfl⟩
      rw [HFF.out] at HSQ HAN
      obtain ⟨c0, HC0⟩ : ∃ q, Hid (cat cs 0 = q) := ⟨_, Lib.hid rfl⟩
      rw [HC0.out] at HAN
      have HX0 := Lib.hid (show cs[0]? = some c0 by have := cat_at (cs := cs) (k := 0) (by rw [HCL.out]; decide); rw [this]; exact congrArg some HC0.out)
      obtain ⟨g, o, rfl, hg, e0⟩ := ((In_IO hcs.out).step HBQ.out).2 0 _ HX0.out
      rw [Nat.add_zero] at e0
      by_cases hc0 : c0 = 0
      · subst hc0
        have d0 := HSQ.out.at_ (j := 0) (by decide)
        have d1 := HSQ.out.at_ (j := 1) (by decide)
        have d2 := HSQ.out.at_ (j := 2) (by decide)
        have d3 := HSQ.out.at_ (j := 3) (by decide)
        have d4 := HSQ.out.at_ (j := 4) (by decide)
        have d5 := HSQ.out.at_ (j := 5) (by decide)
        have d6 := HSQ.out.at_ (j := 6) (by decide)
        have d7 := HSQ.out.at_ (j := 7) (by decide)
        have lS := HSQ.out.lt
        have hq : (Op.equalIn 10000 84 (.agg #[.int .i64 (F 0), .int .i64 (F 1), .int .i64 (F 2), .int .i64 (F 3), .int .i64 (F 4), .int .i64 (F 5), .int .i64 (F 6), .int .i64 (F 7)]) (.agg #[.int .i64 0, .int .i64 0, .int .i64 0, .int .i64 0, .int .i64 0, .int .i64 0, .int .i64 0, .int .i64 0])).run Tryz.prog wr = .ok (azero F) wr := eq_arr F wr
        go_wp2_with fail
        go_ret2
        exact ⟨by rw [HAN.out]; simp [azero], HBQ.out⟩
      · have hz1 : decide (c0 = 0) = false := decide_eq_false hc0
        have hz2 : (c0 == 0) = false := by simpa using hc0
        go_wp2_with fail
        go_ret2
        exact ⟨by rw [HAN.out]; simp [hc0], HBQ.out⟩
#print axioms balanced_impl
end Go.Proofs.YtnpghhpcloljeabGreatDoor.phb
