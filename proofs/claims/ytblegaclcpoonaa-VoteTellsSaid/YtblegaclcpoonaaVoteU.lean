/- VoteTells returns true: every units, votes, numbers; no condition. -/
import Derived.Test.YtblegaclcpoonaaVoteT
import Derived.Deep.RegionHeld3
namespace Go.Proofs.Ytblegaclcpoonaa.Vote
open Go.ChangeShapes Go.WideShapes Go.ChangeAt Go.RowKit
set_option linter.unusedVariables false
set_option linter.unusedSimpArgs false
attribute [local go_sem ↓] Go.wp_at_zero Go.wp_at_succ

theorem consents_is {A : Option Addr} {m cap : Nat} {vs : List V} {i : Nat} {u : Int} {b : Bool} (w : World) (hm : vs.length = m) (hc : Votes w A vs) (hbig : m ≤ 1000000) (h : lst u i vs false = b) :
    Calls Try.prog 63 #[.slice A m cap, .int .i64 i, .int .i64 u] w fun e w' => e = .returned (.bool b) ∧ w = w' := by
  have hh := consents_any A m cap vs i u w hm hc hbig
  rw [h] at hh
  exact hh

set_option maxRecDepth 100000 in
set_option maxHeartbeats 4000000 in
theorem rtally_any (A : Option Addr) (n cap : Nat) (zs : List Int) (A' : Option Addr) (m cap' : Nat) (vs : List V) (u : Int) (w : World) (hn : zs.length = n) (hc : Ints w A zs) (hbig : n ≤ 40)
    (hm : vs.length = m) (hc' : Votes w A' vs) (hbig' : m ≤ 60) :
    Calls Try.prog 32 #[.slice A n cap, .slice A' m cap', .int .i64 u] w fun e w' => e = .returned (.tuple #[.int .i64 (tY zs vs u), .int .i64 (tA zs vs), .int .i64 (tE zs vs)]) ∧ Below w.heap.size w w' := by
  have HN := Lib.hid hn
  have HM := Lib.hid hm
  clear hn hm
  cases hok : okT zs vs
  · have E := Lib.hid (tally_no hok u)
    go_enter Try.func32, Try.ntmps32
    go_wp2_with (fail)
    go_must (refine (rright_is HN.out hc (by omega) HM.out hc' (by omega) hok).mono ?_)
    rintro e w1 ⟨rfl, hb⟩
    go_wp2
    go_ret3
    exact ⟨ret3 E.out, hb⟩
  · have E := Lib.hid (tally_yes hok u)
    have HO := Lib.hid hok
    have HG := Lib.hid (okT_all hok).1
    clear hok
    go_enter Try.func32, Try.ntmps32
    go_wp2_with (fail)
    go_must (refine (rright_is HN.out hc (by omega) HM.out hc' (by omega) HO.out).mono ?_)
    rintro e w1 ⟨rfl, hb⟩
    replace hc := hc.keep hb
    replace hc' := hc'.keep hb
    have HLL := Lib.hid (show (lastV n u vs).length = n from by rw [lastV_length]; simp)
    go_wp2_with (fail)
    go_loop [9, 10, 11] (fun s a i => ∃ k : Nat, k ≤ n ∧ i = .int .i64 k ∧ s = .int .i64 (yesR (zs.take k) ((lastV n u vs).take k)) ∧ a = .int .i64 (total (zs.take k))) (fun _ _ i => n - (intOf i).toNat)
    case atStart => exact ⟨0, Nat.zero_le _, rfl, by simp [yesR], by simp [total]⟩
    case round =>
      obtain ⟨k, hk, rfl, rfl, rfl⟩ := hrel
      have hall : (zs.take k).all goodU = true := by
        rw [List.all_eq_true]
        exact fun x hx => List.all_eq_true.1 HG.out x (List.mem_of_mem_take hx)
      have hin := yesR_in (xs := zs.take k) ((lastV n u vs).take k) hall
      have hto := total_in (zs.take k) hall
      have hle : ((zs.take k).length : Int) ≤ 40 := by
        have := List.length_take_le k zs
        omega
      have b1 := hin.1
      have b2 : yesR (zs.take k) ((lastV n u vs).take k) ≤ 40000000000 := by omega
      have b3 := hto.1
      have b4 : total (zs.take k) ≤ 40000000000 := by omega
      clear hin hto hle hall
      by_cases hlt : k < n
      · obtain ⟨b, off, rfl, hcell⟩ := hc (by rw [HN.out]; omega)
        obtain ⟨z, hz⟩ := at_ zs k (by rw [HN.out]; exact hlt)
        have hy := lastV_at (u := u) (show (k : Int) < (n : Int) by omega) vs
        have c0 := hcell k z hz
        have g := goodU_in (List.all_eq_true.1 HG.out z (mem_of_at hz))
        have g1 := g.1
        have g2 := g.2
        have HT := Lib.hid (show total (zs.take (k + 1)) = total (zs.take k) + z from by rw [take_snoc hz, total_snoc])
        have HS := Lib.hid (show yesR (zs.take (k + 1)) ((lastV n u vs).take (k + 1)) = yesR (zs.take k) ((lastV n u vs).take k) + if lst u k vs false = true then z else 0 from by
          rw [take_snoc hz, take_snoc hy, yesR_snoc]
          simp [HN.out, HLL.out])
        clear hcell hz hy g
        cases hl : lst u k vs false
        · rw [hl] at HS
          have HL := Lib.hid hl
          clear hl
          go_wp2_with (fail)
          go_must (refine (consents_is _ HM.out hc' (by omega) HL.out).mono ?_)
          rintro e w' ⟨rfl, rfl⟩
          go_wp2
          go_round
          case rel => exact ⟨k + 1, by omega, by go_num, by rw [HS.out]; simp, by rw [HT.out]⟩
          case measure => simp [intOf]; omega
        · rw [hl] at HS
          have HL := Lib.hid hl
          clear hl
          go_wp2_with (fail)
          go_must (refine (consents_is _ HM.out hc' (by omega) HL.out).mono ?_)
          rintro e w' ⟨rfl, rfl⟩
          go_wp2
          go_round
          case rel => exact ⟨k + 1, by omega, by go_num, by rw [HS.out]; simp, by rw [HT.out]⟩
          case measure => simp [intOf]; omega
      · obtain rfl : k = n := by omega
        have HF := Lib.hid (show tY zs vs u = yesR (zs.take k) ((lastV k u vs).take k) ∧ tA zs vs = total (zs.take k) ∧ tE zs vs = 0 from by
          have e1 : zs.take k = zs := by rw [← HN.out, List.take_length]
          have e2 : (lastV k u vs).take k = lastV k u vs := List.take_of_length_le (by rw [HLL.out]; exact Nat.le_refl _)
          rw [e1, e2]
          have := E.out
          rw [HN.out] at this
          exact this)
        go_wp2
        go_ret3
        exact ⟨ret3 HF.out, hb⟩

/-- the seats that have voted, with their last vote -/
def rst (n u : Int) (vs all : List V) : List Bool := vs.foldl (fun l v => if 0 ≤ v.s ∧ v.s < n then l.set v.s.toNat (lst u v.s.toNat all false) else l) (List.replicate n.toNat false)
theorem rst_snoc (n u : Int) (vs all : List V) (v : V) : rst n u (vs ++ [v]) all = if 0 ≤ v.s ∧ v.s < n then (rst n u vs all).set v.s.toNat (lst u v.s.toNat all false) else rst n u vs all := by simp [rst]
theorem rst_length (n u : Int) (all : List V) (vs : List V) : (rst n u vs all).length = n.toNat := by
  unfold rst
  have : ∀ (vs : List V) (l : List Bool), (vs.foldl (fun l v => if 0 ≤ v.s ∧ v.s < n then l.set v.s.toNat (lst u v.s.toNat all false) else l) l).length = l.length := by
    intro vs
    induction vs with
    | nil => intro l; rfl
    | cons v vs ih => intro l; rw [List.foldl_cons, ih]; split <;> simp
  rw [this]; simp
theorem rst_at {n u : Int} {all : List V} {i : Nat} (hi : (i : Int) < n) : ∀ (vs : List V) (l : List Bool) (b : Bool), l[i]? = some b →
    (vs.foldl (fun l v => if 0 ≤ v.s ∧ v.s < n then l.set v.s.toNat (lst u v.s.toNat all false) else l) l)[i]? = some (if ∃ v ∈ vs, v.s = i then lst u i all false else b)
  | [], l, b, h => by simpa using h
  | v :: vs, l, b, h => by
    have hl : i < l.length := (List.getElem?_eq_some_iff.1 h).1
    rw [List.foldl_cons]
    by_cases hv : v.s = i
    · have e : v.s.toNat = i := by omega
      rw [if_pos (by omega), e, rst_at hi vs _ (lst u i all false) (List.getElem?_set_self hl), if_pos (⟨v, by simp, hv⟩ : ∃ x ∈ v :: vs, x.s = i)]
      split <;> rfl
    · have h2 : (if 0 ≤ v.s ∧ v.s < n then l.set v.s.toNat (lst u v.s.toNat all false) else l)[i]? = some b := by
        split
        · rw [List.getElem?_set_ne (by omega)]; exact h
        · exact h
      rw [rst_at hi vs _ b h2]
      congr 1
      have e : (∃ x ∈ v :: vs, x.s = i) ↔ ∃ x ∈ vs, x.s = i := ⟨fun ⟨x, hx, hs⟩ => by
        rcases List.mem_cons.1 hx with rfl | hx
        · exact absurd hs hv
        · exact ⟨x, hx, hs⟩, fun ⟨x, hx, hs⟩ => ⟨x, by simp [hx], hs⟩⟩
      exact (if_iff e).symm
theorem rst_all {n u : Int} (vs : List V) : rst n u vs vs = lastV n u vs := by
  apply List.ext_getElem?
  intro i
  by_cases hi : (i : Int) < n
  · rw [lastV_at hi]
    unfold rst
    rw [rst_at hi vs _ false (by rw [List.getElem?_replicate, if_pos (by omega)])]
    split
    · rfl
    · rename_i h
      rw [lst_none vs false fun v hv hh => h ⟨v, hv, hh.1⟩]
  · rw [List.getElem?_eq_none (by rw [rst_length]; omega), List.getElem?_eq_none (by rw [lastV_length]; omega)]

set_option maxHeartbeats 400000 in
theorem rlast_no (A : Option Addr) (m cap : Nat) (n u : Int) (w : World) (h : n < 0 ∨ 20000 < n) :
    Calls Try.prog 39 #[.slice A m cap, .int .i64 n, .int .i64 u] w fun e w' => e = .returned (.slice none 0 0) ∧ w = w' := by
  rcases h with h | h
  · go_enter Try.func39, Try.ntmps39
    go_wp2
    go_ret
    exact ⟨rfl, rfl⟩
  · have h' : 0 ≤ n := by omega
    go_enter Try.func39, Try.ntmps39
    go_wp2
    go_ret
    exact ⟨rfl, rfl⟩

theorem rheld {a W : World} {b g o so : Nat} {s : Int} {x : Bool} (h : Below a.heap.size a W ∧ W.cell? ⟨b, o, none⟩ = some (.int .i64 s) ∧ W.cell? ⟨g, so, none⟩ = some (.bool x) ∧ W.frozen? ⟨g, so, none⟩ = false) :
    Below a.heap.size a W.drew ∧ W.drew.cell? ⟨b, o, none⟩ = some (.int .i64 s) ∧ W.drew.cell? ⟨g, so, none⟩ = some (.bool x) ∧ W.drew.frozen? ⟨g, so, none⟩ = false := ⟨h.1.drew, h.2⟩

set_option maxRecDepth 100000 in
set_option maxHeartbeats 4000000 in
theorem rlast_any (A : Option Addr) (m cap : Nat) (vs : List V) (n : Nat) (u : Int) (w : World) (hm : vs.length = m) (hc : Votes w A vs) (hbig : m ≤ 60) (n1 : n ≤ 60) :
    Calls Try.prog 39 #[.slice A m cap, .int .i64 n, .int .i64 u] w fun e w' => e = .returned (.slice (some ⟨w.heap.size, 0, none⟩) n n) ∧ Below w.heap.size w w' ∧ Row w' w.heap.size 4 (bcs (lastV n u vs)) := by
  have HM := Lib.hid hm
  clear hm
  obtain ⟨i0, hi, hz0, hz1, hz2⟩ := info_parts info4
  have hmk : ∀ W : World, (Instr.makeSlice 51 (.int .i64 n) (.int .i64 n)).run Try.prog W = .ok (.slice (some ⟨W.heap.size, 0, none⟩) n n) (W.alloc (.cells (bcs (List.replicate n false)) 4)) := fun W => by
    have hr := run_make (P := Try.prog) W 51 4 i0 (.bool false) Try.underlying51 hi hz0 .i64 .i64 n n (by omega) (Int.le_refl _) (by rw [hz2]; omega) (by omega)
    rw [hz1, Int.toNat_natCast, made_bools] at hr
    exact hr
  clear hi hz0 hz1 hz2
  go_enter Try.func39, Try.ntmps39
  go_wp2
  clear hmk
  go_loopw [8] (fun i wr => ∃ k : Nat, k ≤ m ∧ i = .int .i64 k ∧ Row wr w.heap.size 4 (bcs (rst n u (vs.take k) vs)) ∧ Below w.heap.size w wr) (fun i _ => m - (intOf i).toNat)
  case atStart => exact ⟨0, Nat.zero_le _, rfl, by simpa [rst] using Row.new _ _ _, by go_grown⟩
  case round =>
    obtain ⟨k, hk, rfl, hrow, hB⟩ := hrel
    have hS : w.heap.size < wr.heap.size := hrow.lt
    by_cases hlt : k < m
    · have hV := hc.keep hB
      obtain ⟨b, off, rfl, hcell⟩ := hc (by rw [HM.out]; omega)
      obtain ⟨v, hv⟩ := at_ vs k (by rw [HM.out]; exact hlt)
      have hbw := World.block_lt_of_cell? w _ (hcell k v hv).1
      dsimp only at hbw
      obtain ⟨c0, c1, c2⟩ := (hcell k v hv).keepB hB
      have HD := Lib.hid (take_snoc hv)
      clear hcell hv
      obtain ⟨s, d, y⟩ := v
      dsimp only at c0 c1 c2
      have k0 : (0 : Int) ≤ (k : Int) := by omega
      have k1 : (k : Int) < (m : Int) := by omega
      by_cases hok : 0 ≤ s ∧ s < n
      · have HU := Lib.hid (show rst n u (vs.take (k + 1)) vs = (rst n u (vs.take k) vs).set s.toNat (lst u s.toNat vs false) from by rw [HD.out, rst_snoc]; exact if_pos hok)
        obtain ⟨a1, a2⟩ := hok
        obtain ⟨sn, rfl⟩ := Int.eq_ofNat_of_zero_le a1
        have hrl := rst_length n u vs (vs.take k)
        obtain ⟨x, hx⟩ := at_ (rst n u (vs.take k) vs) sn (by rw [hrl]; omega)
        have hl : wr.cell? ⟨w.heap.size, sn, none⟩ = some (.bool x) := hrow.boos' hx
        have hf := hrow.frozen sn
        rw [Int.toNat_natCast] at HU
        obtain ⟨q, hq⟩ : ∃ q, lst u sn vs false = q := ⟨_, rfl⟩
        rw [hq] at HU
        have HQ := Lib.hid hq
        clear hx hq hrl
        have hVd := hc.keep hB.drew
        have cs : (wr.setCell ⟨w.heap.size, sn, none⟩ (.bool q)).cell? ⟨b, off + k * 3, none⟩ = some (.int .i64 (sn : Int)) :=
          (World.cell?_setCell_other wr ⟨w.heap.size, sn, none⟩ ⟨b, off + k * 3, none⟩ _ (fun e => by injection e; omega)).trans c0
        go_wp2
        go_region_held3 (fun W' => W'.cell? ⟨b, off + k * 3, none⟩ = some (.int .i64 (sn : Int)))
          (first | exact c0 | exact cs)
          (first | (go_at_call 63; (with_reducible refine (consents_is _ HM.out hVd (by omega) HQ.out).mono ?_); rintro e w' ⟨rfl, rfl⟩))
        go_wp2
        go_roundw
        case rel => exact ⟨k + 1, by omega, by go_num, by rw [HU.out, ← bcs_set]; exact hrow.set _ _, by go_grown⟩
        case measure => simp [intOf]; omega
      · have HU := Lib.hid (show rst n u (vs.take (k + 1)) vs = rst n u (vs.take k) vs from by rw [HD.out, rst_snoc]; exact if_neg hok)
        have h3 : s < 0 ∨ (0 ≤ s ∧ (n : Int) ≤ s) := by omega
        clear hok
        rcases h3 with a1 | ⟨a1, a2⟩
        all_goals
          go_wp2
          go_roundw
          case rel => exact ⟨k + 1, by omega, by go_num, by rw [HU.out]; exact hrow, hB⟩
          case measure => simp [intOf]; omega
    · obtain rfl : k = m := by omega
      rw [List.take_of_length_le (by rw [HM.out]; exact Nat.le_refl _), rst_all] at hrow
      go_wp2
      go_ret
      exact ⟨rfl, hB, hrow⟩
end Go.Proofs.Ytblegaclcpoonaa.Vote
