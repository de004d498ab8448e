/- Tokens: lists compared; cut; the examples. -/
import Derived.Test.YtmineoilmmifiaaDoorLxV
namespace Go.Proofs.YtmineoilmmifiaaDoor.Lx
open Go.Lib Go.ChangeShapes Go.WideShapes Go.ChangeAt Go.RowKit Go.Proofs.YtmineoilmmifiaaDoor.Cell
set_option linter.unusedVariables false
set_option linter.unusedSimpArgs false
section
variable {W : World} {A A' : Option Addr} {n c c' : Nat}
set_option maxRecDepth 100000 in
set_option maxHeartbeats 4000000 in
theorem same_eq {xs : List Tg} (hbig : n ≤ 1000000000) (hn : xs.length = n) (h : Tgs W A xs) (h' : Tgs W A' xs) :
    Calls Tryd.prog 15 #[.slice A n c, .slice A' n c'] W fun e w' => e = .returned (.bool true) ∧ Below W.heap.size W w' := by
  have HN := Lib.hid hn
  have H := Lib.hid h
  have H' := Lib.hid h'
  have hnn : ((n : Int) != (n : Int)) = false := by simp
  clear hn h h'
  go_enter Tryd.func15, Tryd.ntmps15
  go_wp2
  go_loopw [5] (fun iv wr => ∃ k : Nat, k ≤ n ∧ iv = .int .i64 k ∧ Hid (Below W.heap.size W wr)) (fun iv _ => n - (RowKit.intOf iv).toNat)
  case atStart => exact ⟨0, Nat.zero_le _, rfl, Lib.hid (Below.refl _ _)⟩
  case round =>
    obtain ⟨k, hk, rfl, HWr⟩ := hrel
    have k0 : (0 : Int) ≤ (k : Int) := by omega
    by_cases hlt : k < n
    · have hltI : (k : Int) < (n : Int) := by omega
      obtain ⟨x, hx⟩ := at_ xs k (by rw [HN.out]; exact hlt)
      obtain ⟨b, off, rfl, hc⟩ := (H.out.keep HWr.out) (by rw [HN.out]; omega)
      obtain ⟨b', off', rfl, hc'⟩ := (H'.out.keep HWr.out) (by rw [HN.out]; omega)
      obtain ⟨d0, d1, d2, d3⟩ := hc k x hx
      obtain ⟨e0, e1, e2, e3⟩ := hc' k x hx
      clear hc hc' hx
      go_wp2
      go_quiet (fail)
      all_goals
        go_wp2
        go_roundw
        case rel => exact ⟨k + 1, by omega, by go_num, Lib.hid (by first | exact HWr.out.drew | exact Gen.dN HWr.out _)⟩
        case measure => simp [RowKit.intOf]; omega
    · obtain rfl : k = n := by omega
      go_wp2
      go_ret
      exact ⟨rfl, HWr.out⟩
set_option maxRecDepth 100000 in
set_option maxHeartbeats 4000000 in
theorem like_eq {xs ys : List Tg} (hbig : n ≤ 1000000000) (hn : xs.length = n) (hy : ys.length = n) (hxy : ∀ (j : Nat) x y, xs[j]? = some x → ys[j]? = some y → x.k = y.k ∧ x.t = y.t ∧ x.n = y.n) (h : Tgs W A xs) (h' : Tgs W A' ys) :
    Calls Tryd.prog 20 #[.slice A n c, .slice A' n c'] W fun e w' => e = .returned (.bool true) ∧ Below W.heap.size W w' := by
  have HN := Lib.hid hn
  have HY := Lib.hid hy
  have HXY := Lib.hid hxy
  have H := Lib.hid h
  have H' := Lib.hid h'
  have hnn : ((n : Int) != (n : Int)) = false := by simp
  clear hn hy hxy h h'
  go_enter Tryd.func20, Tryd.ntmps20
  go_wp2
  go_loopw [5] (fun iv wr => ∃ k : Nat, k ≤ n ∧ iv = .int .i64 k ∧ Hid (Below W.heap.size W wr)) (fun iv _ => n - (RowKit.intOf iv).toNat)
  case atStart => exact ⟨0, Nat.zero_le _, rfl, Lib.hid (Below.refl _ _)⟩
  case round =>
    obtain ⟨k, hk, rfl, HWr⟩ := hrel
    have k0 : (0 : Int) ≤ (k : Int) := by omega
    by_cases hlt : k < n
    · have hltI : (k : Int) < (n : Int) := by omega
      obtain ⟨x, hx⟩ := at_ xs k (by rw [HN.out]; exact hlt)
      obtain ⟨y, hy⟩ := at_ ys k (by rw [HY.out]; exact hlt)
      obtain ⟨b, off, rfl, hc⟩ := (H.out.keep HWr.out) (by rw [HN.out]; omega)
      obtain ⟨b', off', rfl, hc'⟩ := (H'.out.keep HWr.out) (by rw [HY.out]; omega)
      obtain ⟨d0, d1, d2, d3⟩ := hc k x hx
      obtain ⟨e0, e1, e2, e3⟩ := hc' k y hy
      obtain ⟨f0, f1, f2⟩ := HXY.out k x y hx hy
      rw [← f0] at e0
      rw [← f1] at e1
      rw [← f2] at e2
      clear hc hc' hx hy f0 f1 f2
      go_wp2
      go_quiet (fail)
      all_goals
        go_wp2
        go_roundw
        case rel => exact ⟨k + 1, by omega, by go_num, Lib.hid (by first | exact HWr.out.drew | exact Gen.dN HWr.out _)⟩
        case measure => simp [RowKit.intOf]; omega
    · obtain rfl : k = n := by omega
      go_wp2
      go_ret
      exact ⟨rfl, HWr.out⟩
set_option maxRecDepth 100000 in
set_option maxHeartbeats 2000000 in
theorem cut_any {l : List UInt8} : Calls Tryd.prog 10 #[.string ⟨l.toArray⟩] W fun e w' => e = .returned (.string ⟨(l.take 900).toArray⟩) ∧ w' = W := by
  have hz : (⟨l.toArray⟩ : ByteArray).size = l.length := by simp [ByteArray.size]
  by_cases h : l.length ≤ 900
  · have hm : min (l.length : Int) 900 = (l.length : Int) := by omega
    have h0 : (0 : Int) ≤ (l.length : Int) := by omega
    have HT : Hid ((⟨l.toArray⟩ : ByteArray).extract 0 l.length = ⟨(l.take 900).toArray⟩) := Lib.hid (str_eq (by rw [Lib.extract_data, List.drop_zero, Nat.sub_zero]; show l.take l.length = l.take 900; rw [List.take_of_length_le (Nat.le_refl _), List.take_of_length_le h]))
    go_enter Tryd.func10, Tryd.ntmps10
    go_wp2
    go_ret
    exact ⟨by rw [← HT.out]; rfl, rfl⟩
  · have hm : min (l.length : Int) 900 = 900 := by omega
    have h0 : (900 : Int) ≤ (l.length : Int) := by omega
    have HT : Hid ((⟨l.toArray⟩ : ByteArray).extract 0 900 = ⟨(l.take 900).toArray⟩) := Lib.hid (str_eq (by rw [Lib.extract_data, List.drop_zero, Nat.sub_zero]))
    go_enter Tryd.func10, Tryd.ntmps10
    go_wp2
    go_ret
    exact ⟨by rw [← HT.out]; rfl, rfl⟩
end
theorem ex1 : Lx 0 [120, 32, 61, 61, 32, 49, 50, 97] [⟨0, [120], 0, 0⟩, ⟨2, [61, 61], 0, 2⟩, ⟨1, [49, 50], 12, 5⟩, ⟨0, [97], 0, 7⟩] none :=
  .cons (c := 120) (r := [32, 61, 61, 32, 49, 50, 97]) rfl rfl (.cons (c := 61) (r := [61, 32, 49, 50, 97]) rfl rfl (.cons (c := 49) (r := [50, 97]) rfl rfl (.cons (c := 97) (r := []) rfl rfl (.stop rfl))))
theorem ex2 : Lx 0 [97, 49, 61, 61, 48, 48, 55] [⟨0, [97, 49], 0, 0⟩, ⟨2, [61, 61], 0, 2⟩] (some (4, 3)) :=
  .cons (c := 97) (r := [49, 61, 61, 48, 48, 55]) rfl rfl (.cons (c := 61) (r := [61, 48, 48, 55]) rfl rfl (.err (c := 48) (r := [48, 55]) rfl rfl))
theorem ex3 : Lx 0 [97, 32, 58] [⟨0, [97], 0, 0⟩] (some (2, 10)) :=
  .cons (c := 97) (r := [32, 58]) rfl rfl (.err (c := 58) (r := []) rfl rfl)
theorem ex4 : Lx 0 [97, 61, 98, 32, 59] [⟨0, [97], 0, 0⟩, ⟨2, [61], 0, 1⟩, ⟨0, [98], 0, 2⟩, ⟨2, [59], 0, 4⟩] none :=
  .cons (c := 97) (r := [61, 98, 32, 59]) rfl rfl (.cons (c := 61) (r := [98, 32, 59]) rfl rfl (.cons (c := 98) (r := [32, 59]) rfl rfl (.cons (c := 59) (r := []) rfl rfl (.stop rfl))))
theorem lexP_ok {W w' : World} {l : List UInt8} {ts : List Tk} {e : Ending} (hx : Lx 0 l ts none) (h : LexP W l e w') : (∃ A c, e = .returned (.tuple #[.slice A (ts.length + 1) c, .int .i64 0, .int .i64 0]) ∧ w'.ownsRow W.heap.size 25 4 (.slice A (ts.length + 1) c) (ts.length + 1) ((ts ++ [endT l.length]).flatMap tcs)) ∧ Below W.heap.size W w' := by
  obtain ⟨h, hb⟩ := h
  refine ⟨?_, hb⟩
  rcases h with ⟨ts', A, c, h1, h2, h3⟩ | ⟨ts', q, x, h1, _⟩
  · obtain ⟨rfl, _⟩ := lx_uniq hx h1
    exact ⟨A, c, h2, h3⟩
  · have := (lx_uniq hx h1).2
    cases this
theorem lexP_err {W w' : World} {l : List UInt8} {ts : List Tk} {e : Ending} {q : Nat} {x : Int} (hx : Lx 0 l ts (some (q, x))) (h : LexP W l e w') : e = .returned (.tuple #[.slice none 0 0, .int .i64 (q : Int), .int .i64 x]) ∧ Below W.heap.size W w' := by
  obtain ⟨h, hb⟩ := h
  refine ⟨?_, hb⟩
  rcases h with ⟨ts', A, c, h1, h2, h3⟩ | ⟨ts', q', x', h1, h2⟩
  · have := (lx_uniq hx h1).2
    cases this
  · have := (lx_uniq hx h1).2
    injection this with this
    injection this with e1 e2
    subst e1 e2
    exact h2
end Go.Proofs.YtmineoilmmifiaaDoor.Lx
