/- Big integers: what is subtracted, or added back, in place. -/
import Derived.Test.YtnifkianjpjahaaDoorBgS
namespace Go.Proofs.YtnifkianjpjahaaDoor.Bg
open Go.ChangeShapes Go.WideShapes Go.ChangeAt Go.RowKit Go.Proofs.YtnifkianjpjahaaDoor.Cell
set_option linter.unusedVariables false
set_option linter.unusedSimpArgs false

theorem mul_small' {x y : Int} (hx : 0 ≤ x ∧ x ≤ 1048575) (hy : 0 ≤ y ∧ y < 1048576) : 0 ≤ x * y ∧ x * y ≤ 1099509530625 := by
  refine ⟨Int.mul_nonneg hx.1 hy.1, ?_⟩
  have h1 : x * y ≤ 1048575 * y := Int.mul_le_mul_of_nonneg_right hx.2 hy.1
  omega
/-- less so many times, digit by digit -/
structure St (S v out : List Int) (t : Int) (k : Nat) (cy : Int) : Prop where
  dg : Dg out
  len : out.length = k
  rng : -1048576 ≤ cy ∧ cy ≤ 0
  eq : val out + pw k * cy = val (S.take k) - t * val (v.take k)
theorem St.start (S v : List Int) (t : Int) : St S v [] t 0 0 := ⟨Dg.nil, rfl, by omega, by rw [List.take_zero, List.take_zero, val_nil]; simp⟩
theorem St.step {S v out : List Int} {t cy x y : Int} {k : Nat} (h : St S v out t k cy) (dS : Dg S) (dv : Dg v) (ht : 0 ≤ t ∧ t ≤ 1048575) (hx : S[k]? = some x) (hy : v[k]? = some y) : St S v (out ++ [(x + cy - t * y) % 1048576]) t (k + 1) ((x + cy - t * y) / 1048576) := by
  have h1 := dS.at_ hx
  have h2 := mul_small' ht (dv.at_ hy)
  have h3 := h.rng
  refine ⟨h.dg.snoc (by omega), by rw [List.length_append, h.len]; rfl, by omega, ?_⟩
  rw [val_snoc, h.len, val_take_succ hx, val_take_succ hy, pw_succ]
  have e := h.eq
  have h4 : 1048576 * ((x + cy - t * y) / 1048576) + (x + cy - t * y) % 1048576 = x + cy - t * y := by omega
  obtain ⟨q, hq⟩ : ∃ q, (x + cy - t * y) / 1048576 = q := ⟨_, rfl⟩
  obtain ⟨r, hr⟩ : ∃ r, (x + cy - t * y) % 1048576 = r := ⟨_, rfl⟩
  rw [hq, hr] at h4
  rw [hq, hr]
  have h5 : r = x + cy - t * y - 1048576 * q := by omega
  rw [h5]
  have h6 : val out = val (S.take k) - t * val (v.take k) - pw k * cy := by omega
  rw [h6]
  grind
theorem St.step1 {S v out : List Int} {t cy x : Int} {k : Nat} (h : St S v out t k cy) (dS : Dg S) (hx : S[k]? = some x) (hv : v.length ≤ k) : St S v (out ++ [(x + cy) % 1048576]) t (k + 1) ((x + cy) / 1048576) := by
  have h1 := dS.at_ hx
  have h3 := h.rng
  refine ⟨h.dg.snoc (by omega), by rw [List.length_append, h.len]; rfl, by omega, ?_⟩
  rw [val_snoc, h.len, val_take_succ hx, pw_succ, List.take_of_length_le (show v.length ≤ k + 1 by omega)]
  have e := h.eq
  rw [List.take_of_length_le hv] at e
  have h4 : 1048576 * ((x + cy) / 1048576) + (x + cy) % 1048576 = x + cy := by omega
  obtain ⟨q, hq⟩ : ∃ q, (x + cy) / 1048576 = q := ⟨_, rfl⟩
  obtain ⟨r, hr⟩ : ∃ r, (x + cy) % 1048576 = r := ⟨_, rfl⟩
  rw [hq, hr] at h4
  rw [hq, hr]
  have h5 : r = x + cy - 1048576 * q := by omega
  rw [h5]
  have h6 : val out = val (S.take k) - t * val v - pw k * cy := by omega
  rw [h6]
  grind
/-- a sum, digit by digit, of digits that are written over -/
structure Ab (S v out : List Int) (k : Nat) (cy : Int) : Prop where
  dg : Dg out
  len : out.length = k
  rng : 0 ≤ cy ∧ cy ≤ 1
  eq : val out + pw k * cy = val (S.take k) + val (v.take k)
theorem Ab.start (S v : List Int) : Ab S v [] 0 0 := ⟨Dg.nil, rfl, by omega, by rw [List.take_zero, List.take_zero, val_nil]; simp⟩
theorem Ab.step {S v out : List Int} {cy x y : Int} {k : Nat} (h : Ab S v out k cy) (dS : Dg S) (dv : Dg v) (hx : S[k]? = some x) (hy : v[k]? = some y) : Ab S v (out ++ [(x + cy + y) % 1048576]) (k + 1) ((x + cy + y) / 1048576) := by
  have h1 := dS.at_ hx
  have h2 := dv.at_ hy
  have h3 := h.rng
  refine ⟨h.dg.snoc (by omega), by rw [List.length_append, h.len]; rfl, by omega, ?_⟩
  rw [val_snoc, h.len, val_take_succ hx, val_take_succ hy, pw_succ]
  have e := h.eq
  have h4 : 1048576 * ((x + cy + y) / 1048576) + (x + cy + y) % 1048576 = x + cy + y := by omega
  obtain ⟨q, hq⟩ : ∃ q, (x + cy + y) / 1048576 = q := ⟨_, rfl⟩
  obtain ⟨r, hr⟩ : ∃ r, (x + cy + y) % 1048576 = r := ⟨_, rfl⟩
  rw [hq, hr] at h4
  rw [hq, hr]
  have h5 : r = x + cy + y - 1048576 * q := by omega
  rw [h5]
  have h6 : val out = val (S.take k) + val (v.take k) - pw k * cy := by omega
  rw [h6]
  grind
theorem Ab.step1 {S v out : List Int} {cy x : Int} {k : Nat} (h : Ab S v out k cy) (dS : Dg S) (hx : S[k]? = some x) (hv : v.length ≤ k) : Ab S v (out ++ [(x + cy) % 1048576]) (k + 1) ((x + cy) / 1048576) := by
  have h1 := dS.at_ hx
  have h3 := h.rng
  refine ⟨h.dg.snoc (by omega), by rw [List.length_append, h.len]; rfl, by omega, ?_⟩
  rw [val_snoc, h.len, val_take_succ hx, pw_succ, List.take_of_length_le (show v.length ≤ k + 1 by omega)]
  have e := h.eq
  rw [List.take_of_length_le hv] at e
  have h4 : 1048576 * ((x + cy) / 1048576) + (x + cy) % 1048576 = x + cy := by omega
  obtain ⟨q, hq⟩ : ∃ q, (x + cy) / 1048576 = q := ⟨_, rfl⟩
  obtain ⟨r, hr⟩ : ∃ r, (x + cy) % 1048576 = r := ⟨_, rfl⟩
  rw [hq, hr] at h4
  rw [hq, hr]
  have h5 : r = x + cy - 1048576 * q := by omega
  rw [h5]
  have h6 : val out = val (S.take k) + val v - pw k * cy := by omega
  rw [h6]
  grind
theorem drop_get {U : List Int} {j k : Nat} {x : Int} (h : U[j + k]? = some x) : (U.drop j)[k]? = some x := by rw [List.getElem?_drop]; exact h
set_option maxRecDepth 100000 in
set_option maxHeartbeats 8000000 in
theorem subT_any {g j m cu gv n cv : Nat} {U v r : List Int} {t : Int} (w : World) (hr : Row w g 3 (ics U)) (hm : j + m ≤ U.length) (dU : Dg U) (hgv : gv ≠ g) (hv : Row w gv 3 (ics (v ++ r))) (hn : v.length = n) (dv : Dg v) (ht : 0 ≤ t ∧ t ≤ 1048575) (hbig : U.length ≤ 1000) (hbig' : n ≤ 1000) :
    Calls Tryd.prog 63 #[.slice (some ⟨g, j, none⟩) m cu, .slice (some ⟨gv, 0, none⟩) n cv, .int .i64 t] w fun e w' => ∃ (out : List Int) (cy : Int), e = .returned (.bool (decide (cy < 0))) ∧ Only g w w' ∧ Row w' g 3 (ics (U.take j ++ out ++ U.drop (j + m))) ∧ St (U.drop j) v out t m cy := by
  have HDS : Hid (Dg (U.drop j)) := Lib.hid (dU.drop j)
  have HDV := Lib.hid dv
  have HN := Lib.hid hn
  have HTL : Hid ((U.take j).length = j) := Lib.hid (by rw [List.length_take]; omega)
  have HV := Lib.hid hv
  have HR0 : Hid (Row w g 3 (ics ((U.take j ++ []) ++ U.drop (j + 0)))) := Lib.hid (by rw [List.append_nil, Nat.add_zero, List.take_append_drop]; exact hr)
  have hmb : m ≤ 1000 := by omega
  have HM := Lib.hid hm
  clear hr dU hv hn dv hbig hm
  go_enter Tryd.func63, Tryd.ntmps63
  go_wp2
  go_loopw [7, 12] (fun cv iv wr => ∃ (k : Nat) (out : List Int) (cy : Int), k ≤ m ∧ iv = .int .i64 k ∧ cv = .int .i64 cy ∧ Hid (Row wr g 3 (ics ((U.take j ++ out) ++ U.drop (j + k)))) ∧ Hid (St (U.drop j) v out t k cy) ∧ Hid (Only g w wr)) (fun _ iv _ => m - (intOf iv).toNat)
  case atStart => exact ⟨0, [], 0, Nat.zero_le _, rfl, rfl, HR0, Lib.hid (St.start _ _ t), Lib.hid (Only.refl _ _)⟩
  case round =>
    clear HR0
    obtain ⟨k, out, cy, hk, rfl, rfl, HR, HS, HO⟩ := hrel
    have k0 : (0 : Int) ≤ (k : Int) := by omega
    obtain ⟨y0, y1⟩ := HS.out.rng
    have hg := HR.out.lt
    have HOL : Hid ((U.take j ++ out).length = j + k) := Lib.hid (by rw [List.length_append, HTL.out, HS.out.len])
    by_cases hlt : k < m
    · have hltI : (k : Int) < (m : Int) := by omega
      obtain ⟨x, hx⟩ := at_ U (j + k) (by have := HM.out; omega)
      have l1 : wr.cell? ⟨g, j + k, none⟩ = some (.int .i64 x) := HR.out.intAt (at_mid HOL.out hx)
      have hf := HR.out.frozen (j + k)
      obtain ⟨x0, x1⟩ := HDS.out.at_ (drop_get hx)
      have HX := Lib.hid hx
      clear hx
      have w1 : IntKind.i64.wrap (x + cy) = x + cy := IntWalk.i64_in _ (by omega)
      by_cases hlb : k < n
      · have hlbI : (k : Int) < (n : Int) := by omega
        obtain ⟨y, hy⟩ := at_ v k (by rw [HN.out]; exact hlb)
        have c1 : wr.cell? ⟨gv, k, none⟩ = some (.int .i64 y) := (HO.out.row gv _ _ hgv HV.out).intAt (by rw [List.getElem?_append_left (lt_of_at hy)]; exact hy)
        obtain ⟨z0, z1⟩ := HDV.out.at_ hy
        have hs := HS.out.step HDS.out HDV.out ht (drop_get HX.out) hy
        have hty := mul_small' ht (HDV.out.at_ hy)
        have w3 : IntKind.i64.wrap (t * y) = t * y := IntWalk.i64_in _ (by omega)
        obtain ⟨p, hp⟩ : ∃ p, t * y = p := ⟨_, rfl⟩
        rw [hp] at hs hty w3
        have w2 : IntKind.i64.wrap (x + cy - p) = x + cy - p := IntWalk.i64_in _ (by omega)
        have hand := and_mask (x + cy - p) (by omega)
        obtain ⟨d, hd⟩ : ∃ d, (x + cy - p) % 1048576 = d := ⟨_, rfl⟩
        obtain ⟨q, hq⟩ : ∃ q, (x + cy - p) / 1048576 = q := ⟨_, rfl⟩
        clear hy hty
        rw [hd, hq] at hs
        rw [hd] at hand
        have HS2 := Lib.hid hs
        have HR2 : Hid (Row (wr.setCell ⟨g, j + k, none⟩ (.int .i64 d)) g 3 (ics ((U.take j ++ (out ++ [d])) ++ U.drop (j + (k + 1))))) := Lib.hid (by
          rw [← List.append_assoc, ← Nat.add_assoc, ← set_mid HOL.out HX.out, ← ics_set]
          exact HR.out.set _ _)
        have HO2 := Lib.hid (HO.out.set (j + k) (.int .i64 d))
        clear hs hd
        go_wp2
        go_roundw
        case rel => exact ⟨k + 1, out ++ [d], q, by omega, by go_num, rfl, HR2, HS2, HO2⟩
        case measure => simp [intOf]; omega
      · have hlbI : ¬ ((k : Int) < (n : Int)) := by omega
        have hs := HS.out.step1 HDS.out (drop_get HX.out) (show v.length ≤ k by rw [HN.out]; omega)
        have hand := and_mask (x + cy) (by omega)
        obtain ⟨d, hd⟩ : ∃ d, (x + cy) % 1048576 = d := ⟨_, rfl⟩
        obtain ⟨q, hq⟩ : ∃ q, (x + cy) / 1048576 = q := ⟨_, rfl⟩
        rw [hd, hq] at hs
        rw [hd] at hand
        have HS2 := Lib.hid hs
        have HR2 : Hid (Row (wr.setCell ⟨g, j + k, none⟩ (.int .i64 d)) g 3 (ics ((U.take j ++ (out ++ [d])) ++ U.drop (j + (k + 1))))) := Lib.hid (by
          rw [← List.append_assoc, ← Nat.add_assoc, ← set_mid HOL.out HX.out, ← ics_set]
          exact HR.out.set _ _)
        have HO2 := Lib.hid (HO.out.set (j + k) (.int .i64 d))
        clear hs hd
        go_wp2
        go_roundw
        case rel => exact ⟨k + 1, out ++ [d], q, by omega, by go_num, rfl, HR2, HS2, HO2⟩
        case measure => simp [intOf]; omega
    · obtain rfl : m = k := by omega
      go_wp2
      go_ret
      exact ⟨out, cy, rfl, HO.out, HR.out, HS.out⟩
set_option maxRecDepth 100000 in
set_option maxHeartbeats 8000000 in
theorem addB_any {g j m cu gv n cv : Nat} {U v r : List Int} (w : World) (hr : Row w g 3 (ics U)) (hm : j + m ≤ U.length) (dU : Dg U) (hgv : gv ≠ g) (hv : Row w gv 3 (ics (v ++ r))) (hn : v.length = n) (dv : Dg v) (hbig : U.length ≤ 1000) (hbig' : n ≤ 1000) :
    Calls Tryd.prog 64 #[.slice (some ⟨g, j, none⟩) m cu, .slice (some ⟨gv, 0, none⟩) n cv] w fun e w' => ∃ (out : List Int) (cy : Int), e = .returned (.tuple #[]) ∧ Only g w w' ∧ Row w' g 3 (ics (U.take j ++ out ++ U.drop (j + m))) ∧ Ab (U.drop j) v out m cy := by
  have HDS : Hid (Dg (U.drop j)) := Lib.hid (dU.drop j)
  have HDV := Lib.hid dv
  have HN := Lib.hid hn
  have HTL : Hid ((U.take j).length = j) := Lib.hid (by rw [List.length_take]; omega)
  have HV := Lib.hid hv
  have HR0 : Hid (Row w g 3 (ics ((U.take j ++ []) ++ U.drop (j + 0)))) := Lib.hid (by rw [List.append_nil, Nat.add_zero, List.take_append_drop]; exact hr)
  have hmb : m ≤ 1000 := by omega
  have HM := Lib.hid hm
  clear hr dU hv hn dv hbig hm
  go_enter Tryd.func64, Tryd.ntmps64
  go_wp2
  go_loopw [4, 9] (fun cv iv wr => ∃ (k : Nat) (out : List Int) (cy : Int), k ≤ m ∧ iv = .int .i64 k ∧ cv = .int .i64 cy ∧ Hid (Row wr g 3 (ics ((U.take j ++ out) ++ U.drop (j + k)))) ∧ Hid (Ab (U.drop j) v out k cy) ∧ Hid (Only g w wr)) (fun _ iv _ => m - (intOf iv).toNat)
  case atStart => exact ⟨0, [], 0, Nat.zero_le _, rfl, rfl, HR0, Lib.hid (Ab.start _ _), Lib.hid (Only.refl _ _)⟩
  case round =>
    clear HR0
    obtain ⟨k, out, cy, hk, rfl, rfl, HR, HS, HO⟩ := hrel
    have k0 : (0 : Int) ≤ (k : Int) := by omega
    obtain ⟨y0, y1⟩ := HS.out.rng
    have hg := HR.out.lt
    have HOL : Hid ((U.take j ++ out).length = j + k) := Lib.hid (by rw [List.length_append, HTL.out, HS.out.len])
    by_cases hlt : k < m
    · have hltI : (k : Int) < (m : Int) := by omega
      obtain ⟨x, hx⟩ := at_ U (j + k) (by have := HM.out; omega)
      have l1 : wr.cell? ⟨g, j + k, none⟩ = some (.int .i64 x) := HR.out.intAt (at_mid HOL.out hx)
      have hf := HR.out.frozen (j + k)
      obtain ⟨x0, x1⟩ := HDS.out.at_ (drop_get hx)
      have HX := Lib.hid hx
      clear hx
      have w1 : IntKind.i64.wrap (x + cy) = x + cy := IntWalk.i64_in _ (by omega)
      by_cases hlb : k < n
      · have hlbI : (k : Int) < (n : Int) := by omega
        obtain ⟨y, hy⟩ := at_ v k (by rw [HN.out]; exact hlb)
        have c1 : wr.cell? ⟨gv, k, none⟩ = some (.int .i64 y) := (HO.out.row gv _ _ hgv HV.out).intAt (by rw [List.getElem?_append_left (lt_of_at hy)]; exact hy)
        obtain ⟨z0, z1⟩ := HDV.out.at_ hy
        have hs := HS.out.step HDS.out HDV.out (drop_get HX.out) hy
        have w2 : IntKind.i64.wrap (x + cy + y) = x + cy + y := IntWalk.i64_in _ (by omega)
        have hand := and_mask (x + cy + y) (by omega)
        obtain ⟨d, hd⟩ : ∃ d, (x + cy + y) % 1048576 = d := ⟨_, rfl⟩
        obtain ⟨q, hq⟩ : ∃ q, (x + cy + y) / 1048576 = q := ⟨_, rfl⟩
        clear hy
        rw [hd, hq] at hs
        rw [hd] at hand
        have HS2 := Lib.hid hs
        have HR2 : Hid (Row (wr.setCell ⟨g, j + k, none⟩ (.int .i64 d)) g 3 (ics ((U.take j ++ (out ++ [d])) ++ U.drop (j + (k + 1))))) := Lib.hid (by
          rw [← List.append_assoc, ← Nat.add_assoc, ← set_mid HOL.out HX.out, ← ics_set]
          exact HR.out.set _ _)
        have HO2 := Lib.hid (HO.out.set (j + k) (.int .i64 d))
        clear hs hd
        go_wp2
        go_roundw
        case rel => exact ⟨k + 1, out ++ [d], q, by omega, by go_num, rfl, HR2, HS2, HO2⟩
        case measure => simp [intOf]; omega
      · have hlbI : ¬ ((k : Int) < (n : Int)) := by omega
        have hs := HS.out.step1 HDS.out (drop_get HX.out) (show v.length ≤ k by rw [HN.out]; omega)
        have hand := and_mask (x + cy) (by omega)
        obtain ⟨d, hd⟩ : ∃ d, (x + cy) % 1048576 = d := ⟨_, rfl⟩
        obtain ⟨q, hq⟩ : ∃ q, (x + cy) / 1048576 = q := ⟨_, rfl⟩
        rw [hd, hq] at hs
        rw [hd] at hand
        have HS2 := Lib.hid hs
        have HR2 : Hid (Row (wr.setCell ⟨g, j + k, none⟩ (.int .i64 d)) g 3 (ics ((U.take j ++ (out ++ [d])) ++ U.drop (j + (k + 1))))) := Lib.hid (by
          rw [← List.append_assoc, ← Nat.add_assoc, ← set_mid HOL.out HX.out, ← ics_set]
          exact HR.out.set _ _)
        have HO2 := Lib.hid (HO.out.set (j + k) (.int .i64 d))
        clear hs hd
        go_wp2
        go_roundw
        case rel => exact ⟨k + 1, out ++ [d], q, by omega, by go_num, rfl, HR2, HS2, HO2⟩
        case measure => simp [intOf]; omega
    · obtain rfl : m = k := by omega
      go_wp2
      go_end0
      exact ⟨out, cy, rfl, HO.out, HR.out, HS.out⟩
end Go.Proofs.YtnifkianjpjahaaDoor.Bg
