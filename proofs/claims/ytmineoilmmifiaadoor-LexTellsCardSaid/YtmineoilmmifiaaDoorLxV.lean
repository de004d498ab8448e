/- Tokens: the program's Text. -/
import Derived.Test.YtmineoilmmifiaaDoorLxU
import Derived.Lib.Join
namespace Go.Proofs.YtmineoilmmifiaaDoor.Lx
open Go.Lib Go.ChangeShapes Go.WideShapes Go.ChangeAt Go.RowKit Go.Proofs.YtmineoilmmifiaaDoor.Cell
set_option linter.unusedVariables false
set_option linter.unusedSimpArgs false
/-- a token whose parts are any -/
structure Tg where
  k : Int
  t : List UInt8
  n : Int
  q : Int
def tg (x : Tk) : Tg := ⟨x.k, x.t, x.n, x.p⟩
/-- tokens in memory -/
structure TgAt (W : World) (b o : Nat) (x : Tg) : Prop where
  c0 : W.cell? ⟨b, o, none⟩ = some (.int .i64 x.k)
  c1 : W.cell? ⟨b, o + 1, none⟩ = some (.string ⟨x.t.toArray⟩)
  c2 : W.cell? ⟨b, o + 2, none⟩ = some (.int .i64 x.n)
  c3 : W.cell? ⟨b, o + 3, none⟩ = some (.int .i64 x.q)
def Tgs (W : World) (A : Option Addr) (xs : List Tg) : Prop := 0 < xs.length → ∃ b off, A = some ⟨b, off, none⟩ ∧ ∀ (j : Nat) x, xs[j]? = some x → TgAt W b (off + j * 4) x
theorem Tgs.keep {W W' : World} {A : Option Addr} {xs : List Tg} (h : Tgs W A xs) (hb : Below W.heap.size W W') : Tgs W' A xs := fun h0 => by
  obtain ⟨b, off, e, hc⟩ := h h0
  exact ⟨b, off, e, fun j x hx => ⟨Gen.keep hb (hc j x hx).c0, Gen.keep hb (hc j x hx).c1, Gen.keep hb (hc j x hx).c2, Gen.keep hb (hc j x hx).c3⟩⟩
theorem flat_at {α : Type} {f : α → List Value} {K : Nat} (hf : ∀ x, (f x).length = K) {o : Nat} (ho : o < K) : ∀ {l : List α} {j : Nat} {x : α}, l[j]? = some x → (l.flatMap f)[j * K + o]? = (f x)[o]?
  | [], j, x, h => by simp at h
  | z :: l, 0, x, h => by
    simp at h
    subst h
    rw [List.flatMap_cons, List.getElem?_append_left (by rw [hf]; omega), Nat.zero_mul, Nat.zero_add]
  | z :: l, j + 1, x, h => by
    simp at h
    rw [List.flatMap_cons, List.getElem?_append_right (by rw [hf, Nat.succ_mul]; omega), hf, show (j + 1) * K + o - K = j * K + o by rw [Nat.succ_mul]; omega]
    exact flat_at hf ho h
theorem add_at (g k : Nat) : (⟨g, 0, none⟩ : Addr).add k = ⟨g, k, none⟩ := by
  unfold Addr.add
  split
  · rename_i h
    subst h
    rfl
  · simp
theorem own_tgs {W : World} {B n c : Nat} {A : Option Addr} {ts : List Tk} (h : W.ownsRow B 25 4 (.slice A n c) n (ts.flatMap tcs)) (hn : ts.length = n) : Tgs W A (ts.map tg) := fun h0 => by
  have hr := App.Reads.of_own h
  have hn0 : 0 < n := by rw [List.length_map] at h0; omega
  obtain ⟨g, cap, hv, hb, hlt⟩ := h.form hn0
  obtain rfl : A = some ⟨g, 0, none⟩ := by injection hv
  obtain ⟨ad, e, _, hc⟩ := hr.2 hn0
  obtain rfl : (⟨g, 0, none⟩ : Addr) = ad := by injection e
  refine ⟨g, 0, rfl, fun j x hx => ?_⟩
  rw [List.getElem?_map, Option.map_eq_some_iff] at hx
  obtain ⟨y, hy, rfl⟩ := hx
  have hf : ∀ z : Tk, (tcs z).length = 4 := fun _ => rfl
  have e0 := hc (j * 4 + 0) _ (flat_at hf (o := 0) (by decide) hy)
  have e1 := hc (j * 4 + 1) _ (flat_at hf (o := 1) (by decide) hy)
  have e2 := hc (j * 4 + 2) _ (flat_at hf (o := 2) (by decide) hy)
  have e3 := hc (j * 4 + 3) _ (flat_at hf (o := 3) (by decide) hy)
  simp only [add_at, Nat.add_zero] at e0 e1 e2 e3
  rw [Nat.zero_add]
  exact ⟨e0, e1, e2, e3⟩
theorem jn_join : ∀ (xs : List (List UInt8)), Lib.join xs [32] = jn xs
  | [] => rfl
  | [a] => by simp [Lib.join, List.intercalate, jn]
  | a :: b :: r => by
    have ih := jn_join (b :: r)
    unfold Lib.join List.intercalate at ih ⊢
    rw [List.intersperse_cons_cons, List.flatten_cons, List.flatten_cons, ih]
    rfl
/-- the texts of tokens, but the end's -/
def txs (xs : List Tg) : List (List UInt8) := (xs.filter fun x => decide (x.k ≠ 3)).map Tg.t
theorem txs_snoc {xs : List Tg} {k : Nat} {x : Tg} (h : xs[k]? = some x) : txs (xs.take (k + 1)) = if x.k = 3 then txs (xs.take k) else txs (xs.take k) ++ [x.t] := by
  unfold txs
  rw [take_snoc h, List.filter_append, List.map_append]
  by_cases hk : x.k = 3
  · rw [if_pos hk]; simp [hk]
  · rw [if_neg hk]; simp [hk]
theorem txs_len (xs : List Tg) : (txs xs).length ≤ xs.length := by
  unfold txs
  rw [List.length_map]
  exact List.length_filter_le _ _
theorem txs_in {xs : List Tg} {t : List UInt8} (h : t ∈ txs xs) : ∃ x ∈ xs, x.t = t := by
  unfold txs at h
  obtain ⟨x, hx, e⟩ := List.mem_map.1 h
  exact ⟨x, (List.mem_filter.1 hx).1, e⟩
theorem jn_len : ∀ {xs : List (List UInt8)} {b : Nat}, (∀ x ∈ xs, x.length ≤ b) → (jn xs).length ≤ xs.length * (b + 1)
  | [], b, _ => by simp [jn]
  | [a], b, h => by
    have := h a List.mem_cons_self
    simp [jn]
    omega
  | a :: c :: r, b, h => by
    have h1 := h a List.mem_cons_self
    have ih := jn_len (xs := c :: r) (b := b) fun x hx => h x (List.mem_cons_of_mem _ hx)
    show (a ++ 32 :: jn (c :: r)).length ≤ _
    rw [List.length_append, List.length_cons, List.length_cons, Nat.succ_mul]
    omega
def bys (l : List (List UInt8)) : List ByteArray := l.map fun t => ⟨t.toArray⟩
def stv (l : List (List UInt8)) : List Value := l.map fun t => .string ⟨t.toArray⟩
theorem bys_map (l : List (List UInt8)) : (bys l).map (fun b => b.data.toList) = l := by
  unfold bys
  rw [List.map_map]
  conv => rhs; rw [← List.map_id l]
  rfl
theorem own_cap {w : World} {B n c size : Nat} {e : TypeId} {A : Option Addr} {xs : List Value} (h : w.ownsRow B e size (.slice A n c) n xs) : n ≤ c := by
  rcases h.2 with ⟨hv, _⟩ | ⟨g, cap, cur, hv, _, _, h1, _⟩
  · injection hv with _ e1 e2
    omega
  · injection hv with _ _ e3
    omega
theorem infoS : (Tryd.prog.info? 9).map (fun i => (i.zero, i.size, i.bytes)) = some (some (.string ⟨#[]⟩), 1, 16) := by kernel_rfl
set_option maxRecDepth 100000 in
set_option maxHeartbeats 8000000 in
theorem text_any {W : World} {A : Option Addr} {n cap M : Nat} {xs : List Tg} (hn : xs.length = n) (hc : Tgs W A xs) (hM : ∀ x ∈ xs, x.t.length ≤ M) (hb : n ≤ 100000) (hM2 : M ≤ 1000000) :
    Calls Tryd.prog 18 #[.slice A n cap] W fun e w' => e = .returned (.string ⟨(jn (txs xs)).toArray⟩) ∧ Below W.heap.size W w' := by
  have HN := Lib.hid hn
  have HC := Lib.hid hc
  have HJ : Hid ((jn (txs xs)).length ≤ 140737488355328) := Lib.hid (by
    have h1 := jn_len (xs := txs xs) (b := M) fun t ht => by
      obtain ⟨x, hx, e⟩ := txs_in ht
      rw [← e]
      exact hM x hx
    have h2 := txs_len xs
    have h3 : (txs xs).length * (M + 1) ≤ 100000 * 1000001 := Nat.mul_le_mul (by omega) (by omega)
    omega)
  obtain ⟨i0, hi0, hz0, hz1, hz2⟩ := info_parts' infoS
  clear hn hc hM
  go_enter Tryd.func18, Tryd.ntmps18
  go_wp2
  go_loopw [3, 8] (fun lv kv wr => ∃ (k m : Nat) (B : Option Addr) (c : Nat), k ≤ n ∧ kv = .int .i64 (k : Int) ∧ lv = .slice B m c ∧ m ≤ k ∧ Hid ((txs (xs.take k)).length = m) ∧ Hid (wr.ownsRow W.heap.size 9 1 (.slice B m c) m (stv (txs (xs.take k)))) ∧ Hid (Below W.heap.size W wr)) (fun _ kv _ => n - (RowKit.intOf kv).toNat)
  case atStart => exact ⟨0, 0, none, 0, Nat.zero_le _, rfl, rfl, Nat.le_refl _, Lib.hid (by simp [txs]), Lib.hid (own_nil _ _ _), Lib.hid (Below.refl _ _)⟩
  case round =>
    obtain ⟨k, m, B, c, hk, rfl, rfl, hmk, HL, HW, HB⟩ := hrel
    have k0 : (0 : Int) ≤ (k : Int) := by omega
    by_cases hlt : k < n
    · have hltI : (k : Int) < (n : Int) := by omega
      obtain ⟨x, hx⟩ := at_ xs k (by rw [HN.out]; exact hlt)
      obtain ⟨b, off, rfl, hcell⟩ := (HC.out.keep HB.out) (by rw [HN.out]; omega)
      obtain ⟨d0, d1, d2, d3⟩ := hcell k x hx
      have HT := Lib.hid (txs_snoc hx)
      have hsz := HB.out.size
      clear hcell hx
      by_cases hk3 : x.k = 3
      · have HT2 : Hid (txs (xs.take (k + 1)) = txs (xs.take k)) := Lib.hid (by rw [HT.out, if_pos hk3])
        have HBz : Hid (Below W.heap.size W (wr.alloc (.cells #[.int .i64 x.k, .string ⟨x.t.toArray⟩, .int .i64 x.n, .int .i64 x.q] 25))) := Lib.hid (Gen.b_alloc HB.out)
        have HWz := Lib.hid (Gen.own_keep HW.out (Gen.b_alloc (x := .cells #[.int .i64 x.k, .string ⟨x.t.toArray⟩, .int .i64 x.n, .int .i64 x.q] 25) (Below.refl _ _)))
        rw [hk3] at HBz HWz d0
        go_wp2
        go_roundw
        case rel => exact ⟨k + 1, m, B, c, by omega, by go_num, rfl, by omega, Lib.hid (by rw [HT2.out]; exact HL.out), Lib.hid (by rw [HT2.out]; exact HWz.out), HBz⟩
        case measure => simp [RowKit.intOf]; omega
      · have HT2 : Hid (txs (xs.take (k + 1)) = txs (xs.take k) ++ [x.t]) := Lib.hid (by rw [HT.out, if_neg hk3])
        go_wp2_with (first
          | (at_builtin
             go_must (refine App.wpList_append_any _ rfl (.tmp 15) (.tmp 18) _ rfl W.heap.size 9 i0 _ 1 16 Tryd.underlying46 hi0 hz0 hz1 hz2 rfl (by omega) (.slice B m c) m (stv (txs (xs.take k))) rfl (Gen.own_keep HW.out (Gen.b_alloc (Gen.b_alloc (Below.refl _ _)))) (wr.heap.size + 1 + 1) (some ⟨wr.heap.size + 1, 0, none⟩) 1 1 [.string ⟨x.t.toArray⟩] rfl (Gen.reads_blk (by simp) rfl) (by simp [Value.oneCell']) (by simp only [maxLen]; omega) (by omega) (by simp; omega) ?_
                      intro v6 w6 hown6 hg6 hat6
                      have ho6 : w6.ownsRow W.heap.size 9 1 v6 (m + 1) (stv (txs (xs.take (k + 1)))) := by
                        rw [HT2.out]
                        unfold stv at hown6 ⊢
                        rw [List.map_append]; exact hown6
                      have hb6 : Below W.heap.size W w6 := Below.grown (Gen.b_alloc (Gen.b_alloc HB.out)) hg6 (Gen.b_alloc (Gen.b_alloc HB.out)).size (fun q hq => (HW.out.lt q hq).1)
                      obtain ⟨A6, c6, rfl, _⟩ := Gen.own_slice ho6
                      have HO6 := Lib.hid ho6
                      have HB6 := Lib.hid hb6
                      clear hown6 hg6 hat6 hb6 ho6))
          | fail)
        go_roundw
        case rel => exact ⟨k + 1, m + 1, A6, c6, by omega, by go_num, rfl, by omega, Lib.hid (by rw [HT2.out, List.length_append, HL.out]; rfl), HO6, HB6⟩
        case measure => simp [RowKit.intOf]; omega
    · obtain rfl : k = n := by omega
      have HTK : Hid (xs.take k = xs) := Lib.hid (List.take_of_length_le (by rw [HN.out]; exact Nat.le_refl _))
      have HXT := Lib.hid HL.out
      rw [HTK.out] at HXT HW
      rcases Nat.eq_zero_or_pos m with hm0 | hm0
      · subst hm0
        have HZ : Hid (jn (txs xs) = []) := Lib.hid (by rw [List.length_eq_zero_iff.1 HXT.out]; rfl)
        go_wp2_with (fail)
        go_must (refine (Tryd.strings_Join_none B c _ _).mono ?_)
        rintro e w5 ⟨rfl, hw⟩
        have hw := hw.symm
        subst hw
        dsimp only
        go_wp2
        go_ret
        exact ⟨by rw [HZ.out]; rfl, HB.out⟩
      · obtain ⟨g, cap', hv, hg1, hg2⟩ := HW.out.form hm0
        obtain ⟨rfl, rfl⟩ : B = some ⟨g, 0, none⟩ ∧ c = cap' := by injection hv with e1 _ e3; exact ⟨e1, e3⟩
        have hcl : ∀ (j : Nat) y, (bys (txs xs))[j]? = some y → wr.cell? ⟨g, 0 + j, none⟩ = some (.string y) := fun j y hy => by
          unfold bys at hy
          rw [List.getElem?_map, Option.map_eq_some_iff] at hy
          obtain ⟨t, ht, rfl⟩ := hy
          have hj : j < m := by have := (List.getElem?_eq_some_iff.1 ht).1; rw [HXT.out] at this; exact this
          have := HW.out.cellAt j (by omega)
          rw [Nat.zero_add, this]
          unfold stv
          rw [List.getElem?_map, ht]
          rfl
        have hbl : (bys (txs xs)).length = m := by unfold bys; rw [List.length_map]; exact HXT.out
        have hmc := own_cap HW.out
        have HBL := Lib.hid hbl
        have HCL := Lib.hid (And.intro hcl hg2)
        have HJ2 : Hid (Lib.join ((bys (txs xs)).map fun b => b.data.toList) (⟨#[32]⟩ : ByteArray).data.toList = jn (txs xs)) := Lib.hid (by rw [bys_map]; exact jn_join _)
        clear hcl hg2 hbl hv
        go_wp2_with (fail)
        rw [show m = (bys (txs xs)).length from HBL.out.symm]
        go_must (refine (Tryd.strings_Join g 0 _ (bys (txs xs)) _ _ HCL.out.1 HCL.out.2 (by rw [HBL.out]; omega) (by rw [HBL.out]; exact hmc) (by rw [HJ2.out]; exact HJ.out)).mono ?_)
        rintro e w5 ⟨rfl, hb5⟩
        rw [HJ2.out]
        have HB5 := Lib.hid (Gen.over hb5 HB.out)
        clear hb5
        dsimp only
        go_wp2
        go_ret
        exact ⟨rfl, HB5.out⟩
end Go.Proofs.YtmineoilmmifiaaDoor.Lx
