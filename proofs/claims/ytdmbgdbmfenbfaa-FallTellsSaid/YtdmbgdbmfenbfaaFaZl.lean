/- Fall: what follows the loop of the reference's Run. -/
import Derived.Test.YtdmbgdbmfenbfaaFaX
import Derived.Test.YtdmbgdbmfenbfaaFaY
import Derived.Test.YtdmbgdbmfenbfaaFaS
import Derived.BigRegion
import Derived.BigQuiet
import Derived.Deep.Cut
import Derived.Deep.CutBlock
import Derived.Deep.DeepCutAuto
namespace Go.Proofs.Ytdmbgdbmfenbfaa.Fa
open Go.ChangeShapes Go.WideShapes Go.ChangeAt Go.RowKit Go.Proofs.Ytdmbgdbmfenbfaa.Cell
set_option linter.unusedVariables false
set_option linter.unusedSimpArgs false
/-- what is left of a function's code behind its first n statements -/
def tailC : Nat → Code → Code
  | 0, c => c
  | n + 1, .seq _ b => tailC n b
  | _ + 1, c => c
def tailO (n : Nat) : Option Code → Code
  | some c => tailC n c
  | none => .skip
def headC : Code → Code
  | .seq a _ => a
  | c => c
def headO (n : Nat) (o : Option Code) : Code := headC (tailO n o)
/-- the reference's deal on its way, in memory -/
structure Gw (w : World) (B g : Nat) (c : Int) (v z : Nat) (p : Pl) (f : Fl) : Prop where
  row : Row w g 26 #[.int .i64 c, .int .i64 f.r, .int .i64 f.t, .int .i64 f.e, .slice p.A1 f.tr.length p.c1, .slice p.A2 v p.c2, .slice p.A3 z p.c3]
  own : w.ownsRow B 39 2 (.slice p.A1 f.tr.length p.c1) f.tr.length (f.tr.flatMap tcs)
  ap : ∀ a, p.A1 = some a → a.block ≠ g
theorem Gw.keep {w w' : World} {B g v z : Nat} {c : Int} {p : Pl} {f : Fl} (h : Gw w B g c v z p f) (hb : Below w.heap.size w w') : Gw w' B g c v z p f :=
  ⟨h.row.keep hb, be_own h.own hb, h.ap⟩
theorem Gw.only {w w' : World} {B g v z : Nat} {c : Int} {p : Pl} {f : Fl} {R : Nat → Prop} (h : Gw w B g c v z p f) (ho : Only w w' R) (hg : ¬ R g) (h1 : ∀ a, p.A1 = some a → ¬ R a.block) : Gw w' B g c v z p f :=
  ⟨ho.row h.row hg, own_only ho h.own h1, h.ap⟩
theorem Gw.put {w W : World} {B g v z : Nat} {c : Int} {p : Pl} {f f' : Fl} (h : Gw w B g c v z p f) (ho : Only w W (fun b => b = g)) (ht : f'.tr = f.tr)
    (hr : Row W g 26 #[.int .i64 c, .int .i64 f'.r, .int .i64 f'.t, .int .i64 f'.e, .slice p.A1 f.tr.length p.c1, .slice p.A2 v p.c2, .slice p.A3 z p.c3]) : Gw W B g c v z p f' :=
  ⟨by rw [ht]; exact hr, by rw [ht]; exact own_only ho h.own (fun a e => h.ap a e), h.ap⟩
theorem Gw.putt {w : World} {B g v z gt i o c1 c2 c3 : Nat} {A2 A3 : Option Addr} {c : Int} {f f' : Fl} {x y : Tr} {u : Value} (h : Gw w B g c v z ⟨some ⟨gt, 0, none⟩, c1, A2, c2, A3, c3⟩ f) (hx : f.tr[i]? = some x)
    (ht : f'.tr = f.tr.set i y) (hr : f'.r = f.r) (htt : f'.t = f.t) (he : f'.e = f.e) (hoo : o < 2) (hy : tcs y = (tcs x).set o u) :
    Gw (w.setCell ⟨gt, i * 2 + o, none⟩ u) B g c v z ⟨some ⟨gt, 0, none⟩, c1, A2, c2, A3, c3⟩ f' := by
  have hl : f'.tr.length = f.tr.length := by rw [ht, List.length_set]
  have hne := h.ap _ rfl
  refine ⟨?_, ?_, h.ap⟩
  · rw [hl, hr, htt, he]
    exact st_row h.row (fun e => hne e.symm)
  · rw [hl, ht, ← flat_set (f := tcs) (K := 2) (fun _ => rfl) hoo hy f.tr i hx]
    exact own_set h.own u
/-- what Run returns -/
def RunF (w : World) (d : Dl) (m : Int) (e : Ending) (w' : World) : Prop := ∃ (a : Dl) (x : List Int) (k : Int) (A1 : Option Addr) (c1 : Nat) (A2 : Option Addr) (c2 : Nat) (A3 : Option Addr) (c3 : Nat) (At : Option Addr) (ct : Nat), a = runD d m ∧ x = runX d m ∧ k = runE d m ∧
    e = .returned (.tuple #[.agg #[.int .i64 a.c, .int .i64 a.r, .int .i64 a.t, .int .i64 a.e, .slice A1 a.tr.length c1, .slice A2 a.te.length c2, .slice A3 a.st.length c3], .slice At x.length ct, .int .i64 k]) ∧
    Dm w' a ⟨A1, c1, A2, c2, A3, c3⟩ ∧ Ints w' At x ∧ Below w.heap.size w w'
theorem runF_err {w w' : World} {d : Dl} {m k : Int} (h : runE d m = k) (h0 : k ≠ 0) (hb : Below w.heap.size w w') : RunF w d m (.returned (errv k)) w' :=
  ⟨zD, [], k, none, 0, none, 0, none, 0, none, 0, by unfold runD; rw [if_neg (by rw [h]; exact h0)], by unfold runX; rw [if_neg (by rw [h]; exact h0)], h.symm, rfl, zdm _, fun h => by simp at h, hb⟩
theorem runE_1 {d : Dl} {m : Int} (h : ¬(rgb d = true ∧ mon m)) : runE d m = 1 := by unfold runE; rw [if_neg h]
theorem runE_3 {d : Dl} {m : Int} (h : rgb d = true ∧ mon m) (h2 : ¬(m + d.t ≤ 1000000000000000 ∧ (dwn d m).2.e ≤ 1000000000000000)) : runE d m = 3 := by unfold runE; rw [if_pos h, if_neg h2]
theorem stp_pot {c : Int} {te : List Te} {f : Fl} {s : St} (h : Ok f) : (stp c te f s).2.p = max (f.p - (stp c te f s).1) 0 := by
  have h1 := h.p
  have h2 := h.r.1
  have htr := h.tr
  unfold stp
  by_cases k0 : s.k = 0
  · rw [if_pos k0]
    cases hx : f.tr[s.n.toNat]? with
    | none => dsimp only; omega
    | some x =>
      obtain ⟨⟨x1, x2⟩, x3, x4⟩ := htr x (List.mem_of_getElem? hx)
      dsimp only
      omega
  · rw [if_neg k0]
    by_cases k1 : s.k = 1
    · rw [if_pos k1]
      cases hx : f.tr[s.n.toNat]? with
      | none => dsimp only; omega
      | some x =>
        obtain ⟨⟨x1, x2⟩, x3, x4⟩ := htr x (List.mem_of_getElem? hx)
        dsimp only
        omega
    · rw [if_neg k1]
      by_cases k2 : s.k = 2
      · rw [if_pos k2]
        dsimp only
        omega
      · rw [if_neg k2]
        by_cases k3 : s.k = 3
        · rw [if_pos k3]
          cases hx : te[s.n.toNat]? with
          | none => dsimp only; omega
          | some x =>
            dsimp only
            by_cases hz : psd f.tr c x
            · rw [if_pos hz]; dsimp only; omega
            · rw [if_neg hz]; dsimp only; omega
        · rw [if_neg k3]
          dsimp only
          omega
section
variable {c r t e m fp fr ft fe : Int} {tr ftr : List Tr} {te : List Te} {st : List St} {xs : List Int} {A2 A3 A4 At : Option Addr} {c2 c3 c4 ct q v z g : Nat} {w W5 wr : World} {x0 x1 x3 x5 x6 x10 x11 x12 x13 x14 x15 x16 x17 x18 x19 x20 x21 x22 x23 x24 x25 x26 x27 x28 x29 x30 x31 x32 x33 x34 x35 x36 x37 x38 x39 x40 x41 x42 x43 x44 x45 x46 x47 x48 x49 x50 x51 x52 x53 x54 x55 x56 x57 x58 x59 x60 x61 x62 x63 x64 x65 x66 x67 x68 x69 x70 x71 x72 x73 x74 x75 x76 x77 x78 x79 x80 x81 x82 x83 x84 x85 x86 x87 x88 x89 x90 x91 x92 x93 x94 x95 x96 x97 x98 x99 x100 x101 x102 x103 x104 x105 x106 x107 x108 x109 x110 x111 x112 x113 x114 x115 x116 x117 x118 x119 x120 x121 x122 x123 x124 x125 x126 x127 x128 x129 x130 x131 x132 x133 x134 x135 x136 x137 x138 x139 x140 x141 x142 x143 x144 x145 x146 x147 x148 x149 x150 x151 x152 x153 x154 x155 x156 x157 x158 x159 x160 x161 x162 x163 x164 x165 x166 x167 x168 x169 x170 x171 x172 x173 x174 x175 x176 x177 x178 x179 x180 x181 : Value}
set_option maxRecDepth 100000 in
set_option maxHeartbeats 16000000 in
theorem run_last (HG : Hid (rgb ⟨c, r, t, e, tr, te, st⟩ = true)) (HMO : Hid (mon m)) (HS9 : Hid (m + t ≤ 1000000000000000)) (HV : Hid (te.length = v)) (HZ : Hid (st.length = z)) (HM0 : Hid (Rs qcs 2 w A2 te ∧ Rs scs 3 w A3 st)) (HY : Hid (dwn ⟨c, r, t, e, tr, te, st⟩ m = (xs, ⟨fp, fr, ft, fe, ftr⟩)))
    (HR5 : Hid (Row W5 (w.heap.size + 1) 26 #[.int .i64 0, .int .i64 0, .int .i64 0, .int .i64 0, .slice none 0 0, .slice none 0 0, .slice none 0 0])) (HWB : Hid (∀ b, (b = g ∨ ∃ a, A4 = some a ∧ b = a.block) → w.heap.size + 1 < b ∧ b < W5.heap.size)) (HAP : Hid (∀ a, A4 = some a → a.block ≠ g))
    (hF : Gw wr (g + 1) g c v z ⟨A4, c4, A2, c2, A3, c3⟩ ⟨fp, fr, ft, fe, ftr⟩) (hO : wr.ownsRow W5.heap.size 3 1 (.slice At z ct) z (ils xs)) (hW : Only W5 wr (fun b => b = g ∨ ∃ a, A4 = some a ∧ b = a.block)) (hBw : Below w.heap.size w wr)
    (hok : Ok ⟨fp, fr, ft, fe, ftr⟩) (hlen : ftr.length = q) (hxl : xs.length = z) (kg1 : w.heap.size + 1 < g) {K : Act → World → Prop} (hK : ∀ a w', Code.wp Try.prog (tailO 10 Try.f9.body) (bodyPost Try.prog Try.f9 (RunF w ⟨c, r, t, e, tr, te, st⟩ m)) a w' → K a w') :
    Code.wp Try.prog (headO 9 Try.f9.body) (Exit.then K (bodyPost Try.prog Try.f9 (RunF w ⟨c, r, t, e, tr, te, st⟩ m))) { tmps := #[x0, x1, .pointer (some ⟨w.heap.size, 0, none⟩), x3, .pointer (some ⟨w.heap.size + 1, 0, none⟩), x5, x6, .int .i64 fp, .pointer (some ⟨g, 0, none⟩), .slice At z ct, x10, x11, x12, x13, x14, x15, x16, x17, x18, x19, x20, x21, x22, x23, x24, x25, x26, x27, x28, x29, x30, x31, x32, x33, x34, x35, x36, x37, x38, x39, x40, x41, x42, x43, x44, x45, x46, x47, x48, x49, x50, x51, x52, x53, x54, x55, x56, x57, x58, x59, x60, x61, x62, x63, x64, x65, x66, x67, x68, x69, x70, x71, x72, x73, x74, x75, x76, x77, x78, x79, x80, x81, x82, x83, x84, x85, x86, x87, x88, x89, x90, x91, x92, x93, x94, x95, x96, x97, x98, x99, x100, x101, x102, x103, x104, x105, x106, x107, x108, x109, x110, x111, x112, x113, x114, x115, x116, x117, x118, x119, x120, x121, x122, x123, x124, x125, x126, x127, x128, x129, x130, x131, x132, x133, x134, x135, x136, x137, x138, x139, x140, x141, x142, x143, x144, x145, x146, x147, x148, x149, x150, x151, x152, x153, x154, x155, x156, x157, x158, x159, x160, x161, x162, x163, x164, x165, x166, x167, x168, x169, x170, x171, x172, x173, x174, x175, x176, x177, x178, x179, x180, x181], defers := [] } wr := by
  have hr := hF.row
  dsimp only at hr hF hO
  rw [hlen] at hr
  have b1 := hok.p
  have b2 := hok.t
  have b3 := hok.pt
  have b4 := hok.r.1
  have b5 := hok.r.2
  dsimp only at b1 b2 b3 b4 b5
  have hr8 := Row.set hr 2 (.int .i64 (ft + fp))
  replace hr8 : Row (wr.setCell ⟨g, 2, none⟩ (.int .i64 (ft + fp))) g 26 #[.int .i64 c, .int .i64 fr, .int .i64 (ft + fp), .int .i64 fe, .slice A4 q c4, .slice A2 v c2, .slice A3 z c3] := hr8
  have hz8 := st_row (g := g) (i := 2) (u := .int .i64 (ft + fp)) (Only.row hW HR5.out (fun hb => by have := (HWB.out _ hb).1; omega)) (by omega)
  have ho8 : Only wr (wr.setCell ⟨g, 2, none⟩ (.int .i64 (ft + fp))) (fun b => b = g) := Only.set (p := ⟨g, 2, none⟩) (Only.refl wr (fun b => b = g)) (.inl rfl) (.int .i64 (ft + fp))
  have hB8 : Below w.heap.size w (wr.setCell ⟨g, 2, none⟩ (.int .i64 (ft + fp))) := Gen.b_set hBw (by show w.heap.size ≤ g; omega)
  have HOT := Lib.hid (own_only ho8 hF.own (fun a ha => HAP.out a ha))
  have HOK8 := Lib.hid (own_more hO ho8 (fun b hb => (HWB.out b (.inl hb)).2))
  have HB8 := Lib.hid hB8
  have n0 : (wr.setCell ⟨g, 2, none⟩ (.int .i64 (ft + fp))).cell? ⟨g, 0, none⟩ = some (.int .i64 c) := hr8.cell 0
  have z0 : (wr.setCell ⟨g, 2, none⟩ (.int .i64 (ft + fp))).cell? ⟨w.heap.size + 1, 0, none⟩ = some (.int .i64 0) := hz8.cell 0
  have zf0 : (wr.setCell ⟨g, 2, none⟩ (.int .i64 (ft + fp))).frozen? ⟨w.heap.size + 1, 0, none⟩ = false := hz8.frozen 0
  have n1 : (wr.setCell ⟨g, 2, none⟩ (.int .i64 (ft + fp))).cell? ⟨g, 1, none⟩ = some (.int .i64 fr) := hr8.cell 1
  have z1 : (wr.setCell ⟨g, 2, none⟩ (.int .i64 (ft + fp))).cell? ⟨w.heap.size + 1, 1, none⟩ = some (.int .i64 0) := hz8.cell 1
  have zf1 : (wr.setCell ⟨g, 2, none⟩ (.int .i64 (ft + fp))).frozen? ⟨w.heap.size + 1, 1, none⟩ = false := hz8.frozen 1
  have n2 : (wr.setCell ⟨g, 2, none⟩ (.int .i64 (ft + fp))).cell? ⟨g, 2, none⟩ = some (.int .i64 (ft + fp)) := hr8.cell 2
  have z2 : (wr.setCell ⟨g, 2, none⟩ (.int .i64 (ft + fp))).cell? ⟨w.heap.size + 1, 2, none⟩ = some (.int .i64 0) := hz8.cell 2
  have zf2 : (wr.setCell ⟨g, 2, none⟩ (.int .i64 (ft + fp))).frozen? ⟨w.heap.size + 1, 2, none⟩ = false := hz8.frozen 2
  have n3 : (wr.setCell ⟨g, 2, none⟩ (.int .i64 (ft + fp))).cell? ⟨g, 3, none⟩ = some (.int .i64 fe) := hr8.cell 3
  have z3 : (wr.setCell ⟨g, 2, none⟩ (.int .i64 (ft + fp))).cell? ⟨w.heap.size + 1, 3, none⟩ = some (.int .i64 0) := hz8.cell 3
  have zf3 : (wr.setCell ⟨g, 2, none⟩ (.int .i64 (ft + fp))).frozen? ⟨w.heap.size + 1, 3, none⟩ = false := hz8.frozen 3
  have n4 : (wr.setCell ⟨g, 2, none⟩ (.int .i64 (ft + fp))).cell? ⟨g, 4, none⟩ = some (.slice A4 q c4) := hr8.cell 4
  have z4 : (wr.setCell ⟨g, 2, none⟩ (.int .i64 (ft + fp))).cell? ⟨w.heap.size + 1, 4, none⟩ = some (.slice none 0 0) := hz8.cell 4
  have zf4 : (wr.setCell ⟨g, 2, none⟩ (.int .i64 (ft + fp))).frozen? ⟨w.heap.size + 1, 4, none⟩ = false := hz8.frozen 4
  have n5 : (wr.setCell ⟨g, 2, none⟩ (.int .i64 (ft + fp))).cell? ⟨g, 5, none⟩ = some (.slice A2 v c2) := hr8.cell 5
  have z5 : (wr.setCell ⟨g, 2, none⟩ (.int .i64 (ft + fp))).cell? ⟨w.heap.size + 1, 5, none⟩ = some (.slice none 0 0) := hz8.cell 5
  have zf5 : (wr.setCell ⟨g, 2, none⟩ (.int .i64 (ft + fp))).frozen? ⟨w.heap.size + 1, 5, none⟩ = false := hz8.frozen 5
  have n6 : (wr.setCell ⟨g, 2, none⟩ (.int .i64 (ft + fp))).cell? ⟨g, 6, none⟩ = some (.slice A3 z c3) := hr8.cell 6
  have z6 : (wr.setCell ⟨g, 2, none⟩ (.int .i64 (ft + fp))).cell? ⟨w.heap.size + 1, 6, none⟩ = some (.slice none 0 0) := hz8.cell 6
  have zf6 : (wr.setCell ⟨g, 2, none⟩ (.int .i64 (ft + fp))).frozen? ⟨w.heap.size + 1, 6, none⟩ = false := hz8.frozen 6
  have k2 : wr.cell? ⟨g, 2, none⟩ = some (.int .i64 ft) := hr.cell 2
  have kf2 := hr.frozen 2
  have kk3 : wr.cell? ⟨g, 3, none⟩ = some (.int .i64 fe) := hr.cell 3
  have kk1 : wr.cell? ⟨g, 1, none⟩ = some (.int .i64 fr) := hr.cell 1
  have y8 : IntKind.i64.wrap (ft + fp) = ft + fp := IntWalk.i64_in _ (by omega)
  have zl : w.heap.size + 1 < (wr.setCell ⟨g, 2, none⟩ (.int .i64 (ft + fp))).heap.size := Row.lt hz8
  have gl : g ≠ w.heap.size + 1 := by omega
  have hf1 : decide (1000000000000000 < ft + fp) = false := decide_eq_false (by omega)
  have hf2 : decide (1000000000000000 < fr) = false := decide_eq_false (by omega)
  have HK := Lib.hid hK
  clear hr hr8 hz8 ho8 hB8 hF hO hW hBw hok hK
  conv => arg 2; whnf
  go_wp2
  refine HK.out _ _ ?_
  conv => arg 2; whnf
  by_cases he : fe ≤ 1000000000000000
  · have hf0 : decide (1000000000000000 < fe) = false := decide_eq_false (by omega)
    have HE := Lib.hid he
    clear he
    obtain ⟨W8, hW8⟩ : ∃ W, W = (wr.setCell ⟨g, 2, none⟩ (.int .i64 (ft + fp))) := ⟨_, rfl⟩
    have HXB : Hid (Below w.heap.size w ((((((((W8.setCell ⟨w.heap.size + 1, 0, none⟩ (.int .i64 c)).setCell ⟨w.heap.size + 1, 1, none⟩ (.int .i64 fr)).setCell ⟨w.heap.size + 1, 2, none⟩ (.int .i64 (ft + fp))).setCell ⟨w.heap.size + 1, 3, none⟩ (.int .i64 fe)).setCell ⟨w.heap.size + 1, 4, none⟩ (.slice A4 q c4)).setCell ⟨w.heap.size + 1, 5, none⟩ (.slice A2 v c2)).setCell ⟨w.heap.size + 1, 6, none⟩ (.slice A3 z c3)))) := Lib.hid (by rw [← hW8] at HB8; exact Gen.b_set (p := ⟨w.heap.size + 1, 6, none⟩) (u := .slice A3 z c3) (Gen.b_set (p := ⟨w.heap.size + 1, 5, none⟩) (u := .slice A2 v c2) (Gen.b_set (p := ⟨w.heap.size + 1, 4, none⟩) (u := .slice A4 q c4) (Gen.b_set (p := ⟨w.heap.size + 1, 3, none⟩) (u := .int .i64 fe) (Gen.b_set (p := ⟨w.heap.size + 1, 2, none⟩) (u := .int .i64 (ft + fp)) (Gen.b_set (p := ⟨w.heap.size + 1, 1, none⟩) (u := .int .i64 fr) (Gen.b_set (p := ⟨w.heap.size + 1, 0, none⟩) (u := .int .i64 c) (HB8.out) (by show w.heap.size ≤ w.heap.size + 1; omega)) (by show w.heap.size ≤ w.heap.size + 1; omega)) (by show w.heap.size ≤ w.heap.size + 1; omega)) (by show w.heap.size ≤ w.heap.size + 1; omega)) (by show w.heap.size ≤ w.heap.size + 1; omega)) (by show w.heap.size ≤ w.heap.size + 1; omega)) (by show w.heap.size ≤ w.heap.size + 1; omega))
    have HXO : Hid (Only W8 ((((((((W8.setCell ⟨w.heap.size + 1, 0, none⟩ (.int .i64 c)).setCell ⟨w.heap.size + 1, 1, none⟩ (.int .i64 fr)).setCell ⟨w.heap.size + 1, 2, none⟩ (.int .i64 (ft + fp))).setCell ⟨w.heap.size + 1, 3, none⟩ (.int .i64 fe)).setCell ⟨w.heap.size + 1, 4, none⟩ (.slice A4 q c4)).setCell ⟨w.heap.size + 1, 5, none⟩ (.slice A2 v c2)).setCell ⟨w.heap.size + 1, 6, none⟩ (.slice A3 z c3))) (fun b => b = w.heap.size + 1)) := Lib.hid (Only.set (p := ⟨w.heap.size + 1, 6, none⟩) (Only.set (p := ⟨w.heap.size + 1, 5, none⟩) (Only.set (p := ⟨w.heap.size + 1, 4, none⟩) (Only.set (p := ⟨w.heap.size + 1, 3, none⟩) (Only.set (p := ⟨w.heap.size + 1, 2, none⟩) (Only.set (p := ⟨w.heap.size + 1, 1, none⟩) (Only.set (p := ⟨w.heap.size + 1, 0, none⟩) (Only.refl W8 (fun b => b = w.heap.size + 1)) (.inl rfl) (.int .i64 c)) (.inl rfl) (.int .i64 fr)) (.inl rfl) (.int .i64 (ft + fp))) (.inl rfl) (.int .i64 fe)) (.inl rfl) (.slice A4 q c4)) (.inl rfl) (.slice A2 v c2)) (.inl rfl) (.slice A3 z c3))
    rw [← hW8] at HOT HOK8
    have HW8 := Lib.hid hW8
    clear hW8 HB8
    go_wp2
    refine bodyPost_ret (v := .tuple #[.agg #[.int .i64 c, .int .i64 fr, .int .i64 (ft + fp), .int .i64 fe, .slice A4 q c4, .slice A2 v c2, .slice A3 z c3], .slice At z ct, .int .i64 0]) (by simp [results, Try.results9, go_sem, *]) rfl ?_
    rw [← HW8.out]
    have h0 : runE ⟨c, r, t, e, tr, te, st⟩ m = 0 := runE_0.2 ⟨HG.out, HMO.out, HS9.out, by rw [HY.out]; exact HE.out⟩
    have hY := HY.out
    have hg1 := (HWB.out _ (.inl rfl)).1
    have hg2 := (HWB.out _ (.inl rfl)).2
    refine ⟨bot ⟨c, r, t, e, tr, te, st⟩ (dwn ⟨c, r, t, e, tr, te, st⟩ m).2, (dwn ⟨c, r, t, e, tr, te, st⟩ m).1, 0, A4, c4, A2, c2, A3, c3, At, ct, by unfold runD; rw [if_pos h0], by unfold runX; rw [if_pos h0], h0.symm, ?_, ⟨?_, HM0.out.1.keep HXB.out, HM0.out.2.keep HXB.out⟩, ?_, HXB.out⟩
    · rw [hY]
      show _ = Ending.returned (.tuple #[.agg #[_, _, _, _, .slice A4 ftr.length c4, .slice A2 te.length c2, .slice A3 st.length c3], .slice At xs.length ct, _])
      rw [hlen, hxl, HV.out, HZ.out]
      rfl
    · rw [hY]
      exact rs_own (f := tcs) (K := 2) (fun _ => rfl) rfl (own_only HXO.out HOT.out (fun a ha hb => by have := (HWB.out _ (.inr ⟨a, ha, rfl⟩)).1; omega))
    · rw [hY]
      exact ints_own (own_more HOK8.out HXO.out (fun b hb => by omega))
  · have hf0 : decide (1000000000000000 < fe) = true := decide_eq_true (by omega)
    have HE := Lib.hid (runE_3 (d := ⟨c, r, t, e, tr, te, st⟩) (m := m) ⟨HG.out, HMO.out⟩ (fun x => he (by have := x.2; rw [HY.out] at this; exact this)))
    clear he HOT HOK8
    have HX : Hid (Below w.heap.size w (((((((((wr.setCell ⟨g, 2, none⟩ (.int .i64 (ft + fp))).setCell ⟨w.heap.size + 1, 0, none⟩ (.int .i64 0)).setCell ⟨w.heap.size + 1, 1, none⟩ (.int .i64 0)).setCell ⟨w.heap.size + 1, 2, none⟩ (.int .i64 0)).setCell ⟨w.heap.size + 1, 3, none⟩ (.int .i64 0)).setCell ⟨w.heap.size + 1, 4, none⟩ (.slice none 0 0)).setCell ⟨w.heap.size + 1, 5, none⟩ (.slice none 0 0)).setCell ⟨w.heap.size + 1, 6, none⟩ (.slice none 0 0)))) := Lib.hid (Gen.b_set (p := ⟨w.heap.size + 1, 6, none⟩) (u := .slice none 0 0) (Gen.b_set (p := ⟨w.heap.size + 1, 5, none⟩) (u := .slice none 0 0) (Gen.b_set (p := ⟨w.heap.size + 1, 4, none⟩) (u := .slice none 0 0) (Gen.b_set (p := ⟨w.heap.size + 1, 3, none⟩) (u := .int .i64 0) (Gen.b_set (p := ⟨w.heap.size + 1, 2, none⟩) (u := .int .i64 0) (Gen.b_set (p := ⟨w.heap.size + 1, 1, none⟩) (u := .int .i64 0) (Gen.b_set (p := ⟨w.heap.size + 1, 0, none⟩) (u := .int .i64 0) (HB8.out) (by show w.heap.size ≤ w.heap.size + 1; omega)) (by show w.heap.size ≤ w.heap.size + 1; omega)) (by show w.heap.size ≤ w.heap.size + 1; omega)) (by show w.heap.size ≤ w.heap.size + 1; omega)) (by show w.heap.size ≤ w.heap.size + 1; omega)) (by show w.heap.size ≤ w.heap.size + 1; omega)) (by show w.heap.size ≤ w.heap.size + 1; omega))
    clear HB8
    go_wp2
    exact bodyPost_ret (v := errv 3) (by simp [errv, results, Try.results9, go_sem, *]) rfl (runF_err HE.out (by omega) HX.out)
end
end Go.Proofs.Ytdmbgdbmfenbfaa.Fa
