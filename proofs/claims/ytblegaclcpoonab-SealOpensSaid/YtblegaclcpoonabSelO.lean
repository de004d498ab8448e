/- Rings of signatures: Open. -/
import Derived.Test.YtblegaclcpoonabSelP
import Derived.BigRegion
import Derived.Deep.RegionLaw
import Derived.Deep.DeepCutAuto
namespace Go.Proofs.Ytblegaclcpoonab.Seal
open Go.ChangeShapes Go.WideShapes Go.ChangeAt Go.RowKit Go.Joins Go.Maps Go.WideMaps Go.Proofs.Ytblegaclcpoonab.Cell
set_option linter.unusedVariables false
set_option linter.unusedSimpArgs false

def HasBad (b : Bool) (l : List En) : Prop := b = true ↔ ∃ x ∈ l, isK x.1 = false
/-- why a list is refused -/
def Bad (l : List En) (c : Int) : Prop := ((∃ x ∈ l, isK x.1 = false) ∧ c = 1) ∨ ((∀ x ∈ l, isK x.1 = true) ∧ ¬ l.Nodup ∧ c = 5)
set_option maxRecDepth 100000 in
theorem scl_any (x : En) (W : World) : Calls Try.prog 37 #[.agg #[.int .i64 x.1, .string x.2]] W fun e w' => e = .returned (.bool (!isK x.1)) ∧ Below W.heap.size W w' := by
  go_enter Try.func37, Try.ntmps37
  go_wp2_with (fail)
  go_must (refine (isKey_any x.1 _).mono ?_)
  rintro e w1 ⟨rfl, rfl⟩
  cases hk : isK x.1
  · go_wp2
    go_ret
    exact ⟨by rw [hk]; rfl, by go_grown⟩
  · go_wp2
    go_ret
    exact ⟨by rw [hk]; rfl, by go_grown⟩
set_option maxRecDepth 100000 in
set_option maxHeartbeats 4000000 in
theorem sidx (A : Option Addr) (n cap : Nat) (l : List En) (b : Bool) (w : World) (hn : l.length = n) (hc : Els w A l) (hbig : n ≤ 1000000) (hb : HasBad b l) :
    Calls Try.prog 45 #[.slice A n cap, .func (Fn.func 37) #[] #[]] w fun e w' => ∃ v : Int, e = .returned (.int .i64 v) ∧ decide (0 ≤ v) = b ∧ Below w.heap.size w w' := by
  have HN := Lib.hid hn
  have HBB := Lib.hid hb
  clear hn hb
  go_enter Try.func45, Try.ntmps45
  go_wp2
  go_loopw [8] (fun iv wr => ∃ k : Nat, k ≤ n ∧ iv = .int .i64 k ∧ Hid (∀ y ∈ l.take k, isK y.1 = true) ∧ Hid (Below w.heap.size w wr)) (fun iv _ => n - (intOf iv).toNat)
  case atStart => exact ⟨0, Nat.zero_le _, rfl, Lib.hid (by simp), Lib.hid (Below.refl _ _)⟩
  case round =>
    obtain ⟨k, hk, rfl, HA, HB⟩ := hrel
    by_cases hlt : k < n
    · obtain ⟨bl, off, rfl, hcell⟩ := (hc.keep HB.out) (by rw [HN.out]; omega)
      obtain ⟨x, hx⟩ := at_ l k (by rw [HN.out]; exact hlt)
      obtain ⟨c0, c1⟩ := hcell k x hx
      have HX := Lib.hid hx
      clear hcell hx
      obtain ⟨xk, xs⟩ := x
      dsimp only at c0 c1
      go_wp2_with (fail)
      go_must (refine (scl_any (xk, xs) _).mono ?_)
      rintro e w1 ⟨rfl, hb1⟩
      have HB1 := Lib.hid (Gen.over hb1 HB.out)
      clear hb1
      dsimp only
      cases hp : isK xk
      · have HF : Hid (true = b) := Lib.hid (HBB.out.2 ⟨_, mem_of_at HX.out, hp⟩).symm
        clear hp
        go_wp2
        go_ret
        exact ⟨_, rfl, by rw [← HF.out]; exact decide_eq_true (by omega), HB1.out⟩
      · have HF : Hid (∀ y ∈ l.take (k + 1), isK y.1 = true) := Lib.hid (fun y hy => by
          rw [take_snoc HX.out, List.mem_append] at hy
          rcases hy with hy | hy
          · exact HA.out y hy
          · rw [List.mem_singleton.1 hy]; exact hp)
        clear hp
        go_wp2
        go_roundw
        case rel => exact ⟨k + 1, by omega, by go_num, HF, HB1⟩
        case measure => simp [intOf]; omega
    · obtain rfl : k = n := by omega
      have HF : Hid (b = false) := Lib.hid (by
        cases hbb : b
        · rfl
        · obtain ⟨x, hx, hk⟩ := HBB.out.1 hbb
          have := HA.out x (by rw [List.take_of_length_le (by rw [HN.out]; exact Nat.le_refl _)]; exact hx)
          rw [hk] at this; cases this)
      go_wp2
      go_ret
      exact ⟨_, rfl, by rw [HF.out]; rfl, HB.out⟩
set_option maxHeartbeats 1000000 in
theorem scont (A : Option Addr) (n cap : Nat) (l : List En) (b : Bool) (w : World) (hn : l.length = n) (hc : Els w A l) (hbig : n ≤ 1000000) (hb : HasBad b l) :
    Calls Try.prog 36 #[.slice A n cap, .func (Fn.func 37) #[] #[]] w fun e w' => e = .returned (.bool b) ∧ Below w.heap.size w w' := by
  go_enter Try.func36, Try.ntmps36
  go_wp2_with (fail)
  go_must (refine (sidx _ _ _ l b _ hn hc hbig hb).mono ?_)
  rintro e w1 ⟨v, rfl, hv, hb1⟩
  have HV := Lib.hid hv
  clear hn hv
  go_wp2
  go_ret
  exact ⟨ret_bool HV.out, hb1⟩
set_option maxRecDepth 100000 in
set_option maxHeartbeats 8000000 in
theorem sopen_any (A : Option Addr) (n cap : Nat) (l : List En) (w : World) (hn : l.length = n) (hc : Els w A l) (hok : ∀ x ∈ l, okE x) (hbig : n ≤ 100) :
    Calls Try.prog 13 #[.slice A n cap] w fun e w' =>
      (∃ g gm eb, e = .returned (.tuple #[.pointer (some ⟨g, 0, none⟩), .int .i64 0]) ∧ (∀ x ∈ l, isK x.1 = true) ∧ Rg w' g gm eb l ∧ w.heap.size ≤ gm ∧ Below w.heap.size w w') ∨
      (∃ c : Int, e = .returned (.tuple #[.pointer none, .int .i64 c]) ∧ Bad l c ∧ Below w.heap.size w w') := by
  have HN := Lib.hid hn
  have HOK := Lib.hid hok
  clear hok
  by_cases hbad : ∃ x ∈ l, isK x.1 = false
  · have HBD := Lib.hid hbad
    have hbb : Hid (HasBad true l) := Lib.hid ⟨fun _ => hbad, fun _ => rfl⟩
    clear hbad
    go_enter Try.func13, Try.ntmps13
    go_wp2_with (fail)
    go_must (refine (scont _ _ _ l true _ hn hc (by omega) hbb.out).mono ?_)
    rintro e w1 ⟨rfl, hb1⟩
    clear hn hbb
    go_wp2
    exact bodyPost_ret (v := .tuple #[.pointer none, .int .i64 1]) (by simp [results, Try.results13, go_sem]) rfl (.inr ⟨1, rfl, .inl ⟨HBD.out, rfl⟩, hb1⟩)
  · have hall : ∀ x ∈ l, isK x.1 = true := fun x hx => by
      cases h : isK x.1
      · exact absurd ⟨x, hx, h⟩ hbad
      · rfl
    have HAL := Lib.hid hall
    have hbb : Hid (HasBad false l) := Lib.hid ⟨(fun c => by cases c), fun c => absurd c hbad⟩
    clear hbad hall
    go_enter Try.func13, Try.ntmps13
    go_wp2_with (fail)
    go_must (refine (scont _ _ _ l false _ hn hc (by omega) hbb.out).mono ?_)
    rintro e w1 ⟨rfl, hb1⟩
    clear hn hbb
    go_wp2_with (fail)
    go_must (refine (new_ex _).mono ?_)
    rintro e w2 ⟨g, gm, rfl, hr, hg1, hg2, hb2⟩
    have hgm : w.heap.size ≤ gm := by have := hb1.size; omega
    have HS0 := Lib.hid (show Rg w2 g gm none (l.take 0) ∧ Below w.heap.size w w2 from ⟨by rw [List.take_zero]; exact hr, Gen.over hb2 hb1⟩)
    clear hr hb1 hb2 hg1 hg2
    go_wp2
    go_loopw [14] (fun iv wr => ∃ (i : Nat) (eb : Option Nat), i ≤ n ∧ iv = .int .i64 i ∧ Hid (Rg wr g gm eb (l.take i) ∧ Below w.heap.size w wr)) (fun iv _ => n - (intOf iv).toNat)
    case atStart => exact ⟨0, none, Nat.zero_le _, rfl, HS0⟩
    case round =>
      clear HS0
      obtain ⟨i, eb, hi, rfl, HS⟩ := hrel
      by_cases hlt : i < n
      · obtain ⟨bl, ol, rfl, hcl⟩ := (hc.keep HS.out.2) (by rw [HN.out]; omega)
        obtain ⟨x, hx⟩ := at_ l i (by rw [HN.out]; exact hlt)
        obtain ⟨c0, c1⟩ := hcl i x hx
        have HX := Lib.hid hx
        have HOX := Lib.hid (HOK.out x (mem_of_at hx))
        clear hcl hx
        obtain ⟨k, s⟩ := x
        dsimp only at c0 c1
        have h1 := HS.out.1.keep (Gen.b_alloc (x := .cells #[.int .i64 k, .string s] 24) (Below.refl _ _))
        have H1 := Lib.hid h1
        obtain ⟨A3, c3, hr3, _⟩ := h1.x
        have m0 := hr3.cell 1
        clear hr3
        by_cases hm : (k, s) ∈ l.take i
        · obtain ⟨p, hp⟩ := List.getElem?_of_mem hm
          have l0 := (h1.yes HOX.out hp).1
          have l1 := fun (q : Nat) => ((h1.keep (Gen.dN (Below.refl _ _) q)).yes HOX.out hp).1
          simp only [ev] at l0 l1
          have HF := Lib.hid (show Bad l 5 from .inr ⟨HAL.out, (fun c => by
            have hp' := hp
            rw [List.getElem?_take] at hp'
            split at hp'
            · have := at_inj c hp' HX.out
              omega
            · cases hp'), rfl⟩)
          have HB := Lib.hid (Gen.b_alloc (x := .cells #[.int .i64 k, .string s] 24) HS.out.2)
          clear hm hp h1
          go_wp2
          go_quiet (fail)
          go_wp2
          exact bodyPost_ret (v := .tuple #[.pointer none, .int .i64 5]) (by simp [results, Try.results13, go_sem]) rfl (.inr ⟨5, rfl, HF.out, Gen.dN HB.out _⟩)
        · have l0 := h1.no HOX.out hm
          have l1 := fun (q : Nat) => (h1.keep (Gen.dN (Below.refl _ _) q)).no HOX.out hm
          simp only [ev] at l0 l1
          have HM := Lib.hid hm
          have hll : (l.take i).length ≤ 1000 := by rw [List.length_take]; omega
          clear hm h1
          go_wp2
          go_quiet (fail)
          go_wp2_with (fail)
          go_must (refine (add_any (W0 := w) (H1.out.keep (Gen.dN (Below.refl _ _) _)) HOX.out HM.out hll (Gen.dN (Gen.b_alloc HS.out.2) _) hgm).mono ?_)
          rintro e w5 ⟨rfl, eb', hR5, _, hB5, _⟩
          have HT := Lib.hid (show Rg w5 g gm eb' (l.take (i + 1)) ∧ Below w.heap.size w w5 from ⟨by rw [take_snoc HX.out]; exact hR5, hB5⟩)
          clear hR5 hB5 l0 l1 m0
          go_wp2
          go_roundw
          case rel => exact ⟨i + 1, _, by omega, by go_num, HT⟩
          case measure => simp [intOf]; omega
      · obtain rfl : n = i := by omega
        have HF := Lib.hid (show Rg wr g gm eb l from by have := HS.out.1; rwa [List.take_of_length_le (by rw [HN.out]; exact Nat.le_refl _)] at this)
        go_wp2
        exact bodyPost_ret (v := .tuple #[.pointer (some ⟨g, 0, none⟩), .int .i64 0]) (by simp [results, Try.results13, go_sem]) rfl (.inl ⟨g, gm, eb, rfl, HAL.out, HF.out, hgm, HS.out.2⟩)
end Go.Proofs.Ytblegaclcpoonab.Seal
