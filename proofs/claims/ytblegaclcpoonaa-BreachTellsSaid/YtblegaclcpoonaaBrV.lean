/- The reference of breach: Worst. -/
import Derived.Test.YtblegaclcpoonaaBrR
import Derived.Test.YtblegaclcpoonaaBrM
import Derived.LoopTactic
import Derived.Deep.QuietTactic
import Derived.BigQuiet
namespace Go.Proofs.Ytblegaclcpoonaa.Br
open Go.ChangeShapes Go.WideShapes Go.ChangeAt Go.RowKit
set_option linter.unusedVariables false

theorem rr_is {s d : Int} {b : Bool} (h : okB s d = b) (w : World) : Calls Try.prog 23 #[bv s d] w fun e w' => e = .returned (.bool b) ∧ Below w.heap.size w w' := by
  have hh := rright_any s d w
  rw [h] at hh
  exact hh

theorem rowK {W W' : World} {g : Nat} {t : TypeId} {cs : Array Value} (hb : Below W.heap.size W W') (h : Vote.Row W g t cs) : Vote.Row W' g t cs := (hb.block _ h.lt).trans h
theorem dN2 {B : Nat} {w W : World} (h : Below B w W) (k : Nat) : Below B w (W.drewN k) := ⟨h.os, h.tape, h.output, h.size, h.block⟩
/-- what the inner loop knows -/
def Sc (K sc : Int) (l : List (Int × Int)) : Prop := (sc = -1 ∧ ∀ y ∈ l, y.1 ≠ K) ∨ (0 ≤ sc ∧ (K, sc) ∈ l ∧ ∀ y ∈ l, y.1 = K → sc ≤ y.2)
theorem Sc.no {K sc s d : Int} {l : List (Int × Int)} (h : Sc K sc l) (hs : s ≠ K) : Sc K sc (l ++ [(s, d)]) := by
  rcases h with ⟨h, h'⟩ | ⟨h, h', h''⟩
  · refine .inl ⟨h, fun y hy => ?_⟩
    rcases List.mem_append.1 hy with hy | hy
    · exact h' y hy
    · rw [List.mem_singleton.1 hy]; exact hs
  · refine .inr ⟨h, List.mem_append_left _ h', fun y hy hk => ?_⟩
    rcases List.mem_append.1 hy with hy | hy
    · exact h'' y hy hk
    · rw [List.mem_singleton.1 hy] at hk; exact absurd hk hs
theorem Sc.take {K sc d : Int} {l : List (Int × Int)} (h : Sc K sc l) (hd : 0 ≤ d) (hlt : sc < 0 ∨ d < sc) : Sc K d (l ++ [(K, d)]) := by
  refine .inr ⟨hd, List.mem_append_right _ (by simp), fun y hy hk => ?_⟩
  rcases List.mem_append.1 hy with hy | hy
  · rcases h with ⟨h, h'⟩ | ⟨h, h', h''⟩
    · exact absurd hk (h' y hy)
    · have := h'' y hy hk
      omega
  · rw [List.mem_singleton.1 hy]; exact Int.le_refl _
theorem Sc.stay {K sc d : Int} {l : List (Int × Int)} (h : Sc K sc l) (h0 : 0 ≤ sc) (hge : sc ≤ d) : Sc K sc (l ++ [(K, d)]) := by
  rcases h with ⟨h, h'⟩ | ⟨h, h', h''⟩
  · omega
  · refine .inr ⟨h, List.mem_append_left _ h', fun y hy hk => ?_⟩
    rcases List.mem_append.1 hy with hy | hy
    · exact h'' y hy hk
    · rw [List.mem_singleton.1 hy]; exact hge
theorem wrs_found {K sc : Int} {l : List (Int × Int)} (hall : l.all okP = true) (hK : 0 < K) (hle : ∀ y ∈ l, y.1 ≤ K) (h : Sc K sc l) (h0 : 0 ≤ sc) : wrs l = (K, sc) := by
  rcases h with ⟨h, h'⟩ | ⟨h, h', h''⟩
  · omega
  · refine (wrs_is hall).uniq ⟨.inr h', .inl hK, fun y hy => ?_⟩
    have := hle y hy
    by_cases e : y.1 = K
    · exact .inr ⟨e, h'' y hy e⟩
    · exact .inl (by show y.1 < K; omega)
theorem wrs_none {l : List (Int × Int)} (hall : l.all okP = true) (hle : ∀ y ∈ l, y.1 ≤ 0) : wrs l = (0, 0) := by
  refine (wrs_is hall).uniq ⟨.inl rfl, le_refl _, fun y hy => ?_⟩
  have h1 := hle y hy
  have h2 := okB_in (List.all_eq_true.1 hall y hy)
  exact .inr ⟨by show y.1 = 0; omega, by show 0 ≤ y.2; omega⟩
theorem less {K sc : Int} {l : List (Int × Int)} (hle : ∀ y ∈ l, y.1 ≤ K) (h : Sc K sc l) (h0 : sc < 0) : ∀ y ∈ l, y.1 ≤ K - 1 := by
  rcases h with ⟨h, h'⟩ | ⟨h, h', h''⟩
  · intro y hy
    have := hle y hy
    have := h' y hy
    omega
  · omega

set_option maxHeartbeats 4000000 in
theorem rworst_any (A : Option Addr) (n cap : Nat) (l : List (Int × Int)) (w : World) (hn : l.length = n) (hc : Brs w A l) (hbig : n ≤ 1000000) :
    Calls Try.prog 25 #[.slice A n cap] w fun e w' => e = .returned (bv (wrs l).1 (wrs l).2) ∧ Below w.heap.size w w' := by
  have HN := Lib.hid hn
  clear hn
  go_enter Try.func25, Try.ntmps25
  go_wp2
  go_loopw [3] (fun i wr => ∃ k : Nat, k ≤ n ∧ i = .int .i64 k ∧ (l.take k).all okP = true ∧ Vote.Row wr w.heap.size 25 #[.int .i64 0, .int .i64 0] ∧ Below w.heap.size w wr) (fun i _ => n - (intOf i).toNat)
  case atStart => exact ⟨0, Nat.zero_le _, rfl, by simp, rowAt _ _ _ rfl, by go_grown⟩
  case round =>
    obtain ⟨k, hk, rfl, ha, hR, hB⟩ := hrel
    have HA := Lib.hid ha
    have hS : w.heap.size < wr.heap.size := hR.lt
    clear ha
    by_cases hlt : k < n
    · obtain ⟨b, off, rfl, hcell⟩ := (hc.keep hB) (by rw [HN.out]; omega)
      obtain ⟨p, hp⟩ := at_ l k (by rw [HN.out]; exact hlt)
      obtain ⟨c0, c1⟩ := hcell k p hp
      have HP := Lib.hid hp
      clear hcell hp
      obtain ⟨s, d⟩ := p
      dsimp only at c0 c1
      cases ho : okB s d
      · have HF := Lib.hid (show wrs l = (0, 0) from if_pos (.inr (not_all HP.out ho)))
        go_wp2_with (fail)
        refine (rr_is ho _).mono ?_
        rintro e w1 ⟨rfl, hb⟩
        have hB1 := over hb hB
        have hR1 := rowK hb hR
        have fr := hR1.frozen
        have hS1 : w.heap.size < w1.heap.size := hR1.lt
        have r0 : w1.cell? ⟨w.heap.size, 0, none⟩ = some (.int .i64 0) := by rw [hR1.cell]; rfl
        have r1 : w1.cell? ⟨w.heap.size, 1, none⟩ = some (.int .i64 0) := by rw [hR1.cell]; rfl
        clear hb hB hR hR1
        go_wp2
        refine bodyPost_ret (v := bv 0 0) (by simp [results, Try.results25, go_sem, r0, r1]) rfl ⟨ret_p HF.out, ?_⟩
        go_grown
      · have HG := Lib.hid (show (l.take (k + 1)).all okP = true from by
          rw [take_snoc HP.out, List.all_append, HA.out]
          simp [okP, ho])
        go_wp2_with (fail)
        refine (rr_is ho _).mono ?_
        rintro e w1 ⟨rfl, hb⟩
        have hB1 := over hb hB
        have hR1 := rowK hb hR
        clear hb hB hR
        go_wp2
        go_roundw
        case rel => exact ⟨k + 1, by omega, by go_num, HG.out, hR1, hB1⟩
        case measure => simp [intOf]; omega
    · obtain rfl : k = n := by omega
      rw [List.take_of_length_le (by rw [HN.out]; exact Nat.le_refl _)] at HA
      go_wp2
      go_loopw [4] (fun kv wr' => ∃ K : Int, 0 ≤ K ∧ K ≤ 3 ∧ kv = .int .i64 K ∧ (∀ y ∈ l, y.1 ≤ K) ∧ Vote.Row wr' w.heap.size 25 #[.int .i64 0, .int .i64 0] ∧ Below w.heap.size w wr') (fun kv _ => (intOf kv).toNat)
      case atStart =>
        refine ⟨3, by omega, by omega, rfl, fun y hy => ?_, hR, hB⟩
        have := okB_in (List.all_eq_true.1 HA.out y hy)
        omega
      case round =>
        clear hR hB hS
        obtain ⟨K, hK0, hK3, rfl, hle, hR, hB⟩ := hrel
        have hS : w.heap.size < wr.heap.size := hR.lt
        have HLE := Lib.hid hle
        clear hle
        by_cases hKp : 0 < K
        · go_wp2
          go_loopw [5, 6] (fun sv iv wr' => ∃ (j : Nat) (sc : Int), j ≤ k ∧ iv = .int .i64 j ∧ sv = .int .i64 sc ∧ Sc K sc (l.take j) ∧ -1 ≤ sc ∧ sc ≤ 200000 ∧ Vote.Row wr' w.heap.size 25 #[.int .i64 0, .int .i64 0] ∧ Below w.heap.size w wr') (fun _ iv _ => k - (intOf iv).toNat)
          case atStart => exact ⟨0, -1, Nat.zero_le _, rfl, rfl, .inl ⟨rfl, by simp⟩, by omega, by omega, hR, hB⟩
          case round =>
            clear hR hB hS
            obtain ⟨j, sc, hj, rfl, rfl, hsc, hs0, hs1, hR, hB⟩ := hrel
            have hS : w.heap.size < wr.heap.size := hR.lt
            have HSC := Lib.hid hsc
            clear hsc
            by_cases hlj : j < k
            · obtain ⟨b, off, rfl, hcell⟩ := (hc.keep hB) (by rw [HN.out]; omega)
              obtain ⟨p, hp⟩ := at_ l j (by rw [HN.out]; exact hlj)
              obtain ⟨c0, c1⟩ := hcell j p hp
              have hok := okB_in (List.all_eq_true.1 HA.out p (mem_of_at hp))
              have HP := Lib.hid hp
              clear hcell hp
              obtain ⟨s, d⟩ := p
              dsimp only at c0 c1 hok
              have HT := Lib.hid (take_snoc HP.out)
              have hd0 := hok.2.2.1
              have hd1 := hok.2.2.2.1
              clear hok
              by_cases hsK : s = K
              · subst hsK
                by_cases hsn : sc < 0
                · have HG := Lib.hid (show Sc s d (l.take (j + 1)) from by rw [HT.out]; exact HSC.out.take hd0 (.inl hsn))
                  go_wp2
                  go_roundw
                  case rel => exact ⟨j + 1, d, by omega, by go_num, rfl, HG.out, by omega, by omega, hR, hB⟩
                  case measure => simp [intOf]; omega
                · by_cases hds : d < sc
                  · have HG := Lib.hid (show Sc s d (l.take (j + 1)) from by rw [HT.out]; exact HSC.out.take hd0 (.inr hds))
                    go_wp2
                    go_roundw
                    case rel => exact ⟨j + 1, d, by omega, by go_num, rfl, HG.out, by omega, by omega, hR, hB⟩
                    case measure => simp [intOf]; omega
                  · have HG := Lib.hid (show Sc s sc (l.take (j + 1)) from by rw [HT.out]; exact HSC.out.stay (by omega) (by omega))
                    go_wp2
                    go_roundw
                    case rel => exact ⟨j + 1, sc, by omega, by go_num, rfl, HG.out, by omega, by omega, hR, hB⟩
                    case measure => simp [intOf]; omega
              · have HG := Lib.hid (show Sc K sc (l.take (j + 1)) from by rw [HT.out]; exact HSC.out.no hsK)
                go_wp2
                go_roundw
                case rel => exact ⟨j + 1, sc, by omega, by go_num, rfl, HG.out, by omega, by omega, hR, hB⟩
                case measure => simp [intOf]; omega
            · obtain rfl : j = k := by omega
              have hsc2 := HSC.out
              rw [List.take_of_length_le (by rw [HN.out]; exact Nat.le_refl _)] at hsc2
              by_cases hsn : sc < 0
              · have HL := Lib.hid (less HLE.out hsc2 hsn)
                clear hsc2
                go_wp2
                go_roundw
                case rel => exact ⟨K - 1, by omega, by omega, by go_num, HL.out, hR, hB⟩
                case measure => simp [intOf]; omega
              · have HF := Lib.hid (wrs_found HA.out hKp HLE.out hsc2 (by omega))
                have fr := hR.frozen
                have r0 : wr.cell? ⟨w.heap.size, 0, none⟩ = some (.int .i64 0) := by rw [hR.cell]; rfl
                have r1 : wr.cell? ⟨w.heap.size, 1, none⟩ = some (.int .i64 0) := by rw [hR.cell]; rfl
                clear hsc2 hR
                go_wp2
                refine bodyPost_ret (v := bv K sc) (by simp [results, Try.results25, go_sem, r0, r1]) rfl ⟨ret_p HF.out, ?_⟩
                go_grown
        · have HF := Lib.hid (wrs_none HA.out (fun y hy => by have := HLE.out y hy; omega))
          have fr := hR.frozen
          have r0 : wr.cell? ⟨w.heap.size, 0, none⟩ = some (.int .i64 0) := by rw [hR.cell]; rfl
          have r1 : wr.cell? ⟨w.heap.size, 1, none⟩ = some (.int .i64 0) := by rw [hR.cell]; rfl
          clear hR
          go_wp2
          refine bodyPost_ret (v := bv 0 0) (by simp [results, Try.results25, go_sem, r0, r1]) rfl ⟨ret_p HF.out, ?_⟩
          go_grown
end Go.Proofs.Ytblegaclcpoonaa.Br
