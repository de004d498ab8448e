/- PostTells: the end of a round, where both ways are looked at. -/
import Derived.Test.YtefikmfogbdhpaaPoZ
import Derived.Test.YtefikmfogbdhpaaLPoO
import Derived.Deep.DeepCutAuto
namespace Go.Proofs.Ytefikmfogbdhpaa.Po
open Go.ChangeShapes Go.WideShapes Go.ChangeAt Go.RowKit Go.Proofs.Ytefikmfogbdhpaa.Cell
set_option linter.unusedVariables false
set_option linter.unusedSimpArgs false
/-- the region of a number -/
def findR (n : Nat) : Code → Option Code
  | .region i o d => if i = n then some (.region i o d) else none
  | .seq a b => (match findR n a with | some c => some c | none => findR n b)
  | .cond _ a b => (match findR n a with | some c => some c | none => findR n b)
  | .block _ b => findR n b
  | .loop b => findR n b
  | .scope b => findR n b
  | _ => none
def regO (n : Nat) : Option Code → Code
  | some c => (match findR n c with | some c => c | none => .skip)
  | none => .skip
section
variable {w wx : World} {g lo gm k m : Nat} {A : Option Addr} {n c q : Nat} {A2 : Option Addr} {n2 c2 : Nat} {S : List En} {H : List Bool} {Am : Option Addr} {cm : Nat} {Ah : Option Addr} {ch : Nat}
variable {x0 x1 x2 x3 x4 x5 x6 x7 x8 x9 x12 x13 x14 x15 x16 x17 x18 x19 x20 x21 x22 x23 x24 x25 x26 x27 x28 x29 x30 x31 x32 x33 x34 x35 x36 x37 x38 x39 x40 x41 x42 x43 x44 x45 x46 x47 x48 x49 x50 x51 x52 x53 x54 x55 x56 x57 x58 x59 x60 x61 x62 x63 x64 x65 x66 x67 x68 x69 x70 x71 x72 x73 x74 x75 x76 x77 x78 x79 x80 x81 x82 x83 x84 x85 x86 x87 x88 x89 x90 x91 x92 x93 x94 x95 x96 x97 x98 x99 x100 x101 x102 x103 x104 x105 x106 x107 x108 x109 x110 x111 x112 x113 x114 x115 x116 x117 x118 x119 x120 x121 x122 x123 x124 x125 x126 x127 x128 x129 x130 x131 x132 x133 x134 x135 x136 x137 x138 x139 x140 x141 x142 x143 x144 x145 x146 x147 x148 x149 x150 x151 x152 x153 x154 x155 x156 x157 x158 x159 x160 x161 x162 x163 x164 x165 x166 x167 x168 x169 x170 x171 x172 x173 x174 x175 x176 x177 x178 x179 x180 x181 x182 x183 x184 x185 x186 x187 x188 x189 x190 x191 x192 x193 x194 x195 x196 x197 x198 x199 x200 x201 : Value}
set_option maxRecDepth 100000 in
set_option maxHeartbeats 16000000 in
theorem tell_tail {K' : Act → World → Prop} {Q' : Exit → Act → World → Prop} (hl : Lt w wx g lo gm (k + 1) A n c q A2 n2 c2 S H Am cm Ah ch) (hlt : k < m) (h3 : m ≤ 40) (hK : ∀ a' w', (∃ u157 u158 u159 u160 u161 u162 u163 u164 u165 u166 u167 u168 u169 u170 u171 u172 u173 u174 u175 u176 u177 u178 u179 u180 u181 u182 u183 u184 u185 u186 u187 u188 u189 u190 u191 u192 u193 u194 u195 u196 u197 u198 u199, a' = { tmps := #[x0, x1, x2, x3, x4, x5, x6, x7, x8, x9, .pointer (some ⟨g, 0, none⟩), .pointer (some ⟨gm, 0, none⟩), x12, x13, x14, x15, x16, x17, x18, x19, x20, x21, x22, x23, x24, x25, x26, x27, x28, x29, x30, x31, x32, x33, x34, x35, x36, x37, x38, x39, x40, x41, x42, x43, x44, x45, x46, x47, x48, x49, x50, x51, x52, x53, x54, x55, x56, x57, x58, x59, x60, x61, x62, x63, x64, x65, x66, x67, x68, x69, x70, x71, x72, x73, x74, x75, x76, x77, x78, x79, x80, x81, x82, x83, x84, x85, x86, x87, x88, x89, x90, x91, x92, x93, x94, x95, x96, x97, x98, x99, x100, x101, x102, x103, x104, x105, x106, x107, x108, x109, x110, x111, x112, x113, x114, x115, x116, x117, x118, x119, x120, x121, x122, x123, x124, x125, x126, x127, x128, x129, x130, x131, x132, x133, x134, x135, x136, x137, x138, x139, x140, x141, x142, x143, x144, x145, x146, x147, x148, x149, x150, x151, x152, x153, x154, x155, x156, u157, u158, u159, u160, u161, u162, u163, u164, u165, u166, u167, u168, u169, u170, u171, u172, u173, u174, u175, u176, u177, u178, u179, u180, u181, u182, u183, u184, u185, u186, u187, u188, u189, u190, u191, u192, u193, u194, u195, u196, u197, u198, u199, .bool false, x201], defers := [] }) ∧ Below wx.heap.size wx w' → K' a' w') :
    Code.wp Try.prog (regO 26 Try.f3.body) (Exit.then K' Q') { tmps := #[x0, x1, x2, x3, x4, x5, x6, x7, x8, x9, .pointer (some ⟨g, 0, none⟩), .pointer (some ⟨gm, 0, none⟩), x12, x13, x14, x15, x16, x17, x18, x19, x20, x21, x22, x23, x24, x25, x26, x27, x28, x29, x30, x31, x32, x33, x34, x35, x36, x37, x38, x39, x40, x41, x42, x43, x44, x45, x46, x47, x48, x49, x50, x51, x52, x53, x54, x55, x56, x57, x58, x59, x60, x61, x62, x63, x64, x65, x66, x67, x68, x69, x70, x71, x72, x73, x74, x75, x76, x77, x78, x79, x80, x81, x82, x83, x84, x85, x86, x87, x88, x89, x90, x91, x92, x93, x94, x95, x96, x97, x98, x99, x100, x101, x102, x103, x104, x105, x106, x107, x108, x109, x110, x111, x112, x113, x114, x115, x116, x117, x118, x119, x120, x121, x122, x123, x124, x125, x126, x127, x128, x129, x130, x131, x132, x133, x134, x135, x136, x137, x138, x139, x140, x141, x142, x143, x144, x145, x146, x147, x148, x149, x150, x151, x152, x153, x154, x155, x156, x157, x158, x159, x160, x161, x162, x163, x164, x165, x166, x167, x168, x169, x170, x171, x172, x173, x174, x175, x176, x177, x178, x179, x180, x181, x182, x183, x184, x185, x186, x187, x188, x189, x190, x191, x192, x193, x194, x195, x196, x197, x198, x199, x200, x201], defers := [] } wx := by
  have HL := Lib.hid hl
  have HKQ := Lib.hid hK
  clear hl hK
  have hnk := HL.out.nk
  have hqn := HL.out.qn
  have hcm := own_cap HL.out.mw.os
  have t0 : (0 : Int) ≤ (q : Int) := by omega
  have t1 : (q : Int) ≤ (n : Int) := by omega
  have t2 : (q : Int) ≤ (cm : Int) := by omega
  have HQ := Lib.hid HL.out.wq.hq
  have HN2 := Lib.hid HL.out.wq.hn2
  have hn2b : n2 ≤ 1000000 := by have h1 := ea_len H; rw [HL.out.wq.hn2, HL.out.wq.hl] at h1; omega
  have HAB := Lib.hid (show (ag H).length ≤ 1000000 from by have h1 := ag_len H; rw [HL.out.wq.hl] at h1; omega)
  have HD2 := Lib.hid (show (S.drop q).length = n - q by rw [List.length_drop, HL.out.wq.hn])
  have HES := Lib.hid (ens_own HL.out.mw.hn HL.out.mw.os)
  have HESr := Lib.hid (ens_rest (ens_own HL.out.mw.hn HL.out.mw.os) q)
  have hnm : n - q ≤ 1000000 := by omega
  have hn1m : n ≤ 1000000 := by omega
  conv => arg 2; whnf
  have HS3 := Lib.hid (show Below wx.heap.size wx wx.drew ∧ wx.drew.cell? ⟨g, 0, none⟩ = some (.slice A n c) ∧ wx.drew.cell? ⟨g, 1, none⟩ = some (.int .i64 (q : Int)) ∧ wx.drew.cell? ⟨g, 2, none⟩ = some (.slice A2 n2 c2) ∧ wx.drew.cell? ⟨gm, 0, none⟩ = some (.slice Am n cm) from ⟨(Below.refl _ _).drew, HL.out.r.cell 0, HL.out.r.cell 1, HL.out.r.cell 2, HL.out.mw.r.cell 0⟩)
  have HCK : Hid ((cm = q ∧ n = q) ∨ ¬ cm = q) := Lib.hid (by omega)
  by_cases hck : cm = q
  all_goals
    first | (have hcp3 : (cm = q) = True := eq_true hck) | (have hcp3 : (cm = q) = False := eq_false hck)
    first
      | (have HE5x := Lib.hid (show Ens wx Am (S.drop q) from fun h0 => by rw [HD2.out] at h0; omega))
      | (have HE5x := HESr)
    clear hck
    go_region_held3 (fun W' : World => Below wx.heap.size wx W' ∧ W'.cell? ⟨g, 0, none⟩ = some (.slice A n c) ∧ W'.cell? ⟨g, 1, none⟩ = some (.int .i64 (q : Int)) ∧ W'.cell? ⟨g, 2, none⟩ = some (.slice A2 n2 c2) ∧ W'.cell? ⟨gm, 0, none⟩ = some (.slice Am n cm))
      (first | assumption | exact HS3.out | exact k4 (by assumption) (by assumption) | fail "keep")
      (first
        | (go_at_call 16; with_reducible refine (same_eq (l := S) _ HL.out.wq.hn (HL.out.wq.he.keep (And.left (by assumption))) (HES.out.keep (And.left (by assumption))) hn1m).mono ?_; rintro e' z1 ⟨rfl, hz1⟩)
        | (go_at_call 17; with_reducible refine (next_is (HL.out.mw.keep (And.left (by assumption))) hn1m).mono ?_; rintro e' z2 ⟨rfl, hz2⟩; have hz2 := hz2.symm; subst hz2; rw [HQ.out])
        | (go_at_call 19; with_reducible refine (early_is (HL.out.mw.keep (And.left (by assumption))) hn1m).mono ?_; rintro e' z3 ⟨Aea, cea, rfl, hEA, hz3⟩; rw [HN2.out])
        | (go_at_call 18; with_reducible refine (ints_eq (l := ea H) _ HN2.out (HL.out.wq.hi.keep (And.left (by assumption))) hEA hn2b).mono ?_; rintro e' z4 ⟨rfl, hz4⟩)
        | (go_at_call 13; with_reducible refine (wq_again (HL.out.wq.keep (And.left (by assumption)))).mono ?_; rintro e' z5 ⟨Aag, mag, cag, rfl, hMG, hAG, hz5⟩; subst hMG)
        | (go_at_call 20; with_reducible refine (again2_is (HL.out.mw.keep (And.left (by assumption))) hn1m).mono ?_; rintro e' z6 ⟨Aa2, ca2, rfl, hA2, hz6⟩; have hAG2 := hAG.keep hz6)
        | (go_at_call 18; with_reducible refine (ints_eq (l := ag H) _ rfl hAG2 hA2 HAB.out).mono ?_; rintro e' z7 ⟨rfl, hz7⟩)
        | (go_at_call 12; with_reducible refine (wq_flight' (HL.out.wq.keep (And.left (by assumption)))).mono ?_; rintro e' z8 ⟨Af, mf, cf, rfl, hmf, hEf, hz8, hab8⟩; rw [HD2.out] at hmf; subst hmf)
        | (go_at_call 16; with_reducible refine (same_eq (l := S.drop q) _ HD2.out hEf (HE5x.out.keep (And.left (by assumption))) hnm).mono ?_; rintro e' z9 ⟨rfl, hz9⟩)
        | fail "arm")
    all_goals
      rename_i hKK
      go_wp2
      exact HKQ.out _ _ ⟨⟨_, _, _, _, _, _, _, _, _, _, _, _, _, _, _, _, _, _, _, _, _, _, _, _, _, _, _, _, _, _, _, _, _, _, _, _, _, _, _, _, _, _, _, rfl⟩, hKK.1⟩
end
end Go.Proofs.Ytefikmfogbdhpaa.Po
