/- BearerApart: its end. -/
import Derived.Test.YthphlaijkknefaaBeaAq
import Derived.Deep.DeepCutAuto
import Derived.Deep.RegionHeld3
import Derived.StillTailTactics
namespace Go.Proofs.Ythphlaijkknefaa.Bea
open Go.ChangeShapes Go.WideShapes Go.ChangeAt Go.RowKit Go.Proofs.Ythphlaijkknefaa.Cell
set_option linter.unusedVariables false
set_option linter.unusedSimpArgs false
section
variable {w wx : World} {A : Option Addr} {n cap b off g2 c2 gx p : Nat} {l : List Pc} {kq co wh d E xi xu xl xs lo se : Int} {xp : List Bool}
variable {x0 x1 x2 x3 x4 x5 x6 x7 x8 x9 x10 x11 x12 x13 x14 x15 x16 x17 x18 x19 x20 x21 x22 x23 x24 x25 x26 x27 x28 x29 x30 x31 x32 x33 x34 x35 x36 x37 x38 x39 x40 x41 x42 x43 x44 x45 x46 x47 x48 x49 x50 x51 x52 x53 x54 x55 x56 x57 x58 x59 x60 x61 x62 x63 x64 x65 x66 x67 x68 x69 x70 x71 x72 x73 x74 x75 x76 x77 x78 x79 x80 x81 x82 x83 x84 x85 x86 x87 x88 x89 x90 x91 x92 x93 x94 x95 x96 x97 x98 x99 x100 x101 x102 x103 x104 x105 x106 x107 x108 x109 x110 x111 x112 x113 x114 x115 x116 x117 x118 x119 x120 x121 x122 x123 x124 x125 x126 x127 x128 x129 x130 x131 x132 x133 x134 x135 x136 x137 x138 x139 x140 x141 x142 x143 x144 x145 x146 x147 x148 x149 x150 x151 x152 x153 x154 x155 x156 x157 x158 x159 x160 x161 x162 x163 x164 x165 x166 x167 x168 x169 x170 x171 x172 x173 x174 x175 x176 x177 x178 x179 x180 x181 x182 x183 x184 x185 x186 x187 x188 x189 x190 x191 x192 x193 x194 x195 x196 x197 x198 x199 x200 x201 x202 x203 x204 x205 x206 x207 x208 x209 x210 x211 x212 x213 x214 x215 x216 x217 x218 x219 x220 x221 x222 x223 x224 x225 x226 x227 x228 x229 x230 x231 x232 x233 x234 x235 x236 x237 x238 x239 x240 x241 x242 x243 x244 x245 x246 x247 x248 x249 x250 x251 x252 : Value}
set_option maxRecDepth 100000 in
set_option maxHeartbeats 16000000 in
theorem ap_err (hE : E ≠ 0) (hb : Below w.heap.size w wx) :
    Code.wp Try.prog (tailO 8 Try.f6.body) (bodyPost Try.prog Try.f6 fun e w' => e = .returned (.bool true) ∧ Below w.heap.size w w') { tmps := #[x0, x1, x2, x3, x4, x5, x6, .bool true, x8, .slice none 0 0, .int .i64 0, .int .i64 E, x12, x13, x14, x15, x16, x17, x18, x19, x20, x21, x22, x23, x24, x25, x26, x27, x28, x29, x30, x31, x32, x33, x34, x35, x36, x37, x38, x39, x40, x41, x42, x43, x44, x45, x46, x47, x48, x49, x50, x51, x52, x53, x54, x55, x56, x57, x58, x59, x60, x61, x62, x63, x64, x65, x66, x67, x68, x69, x70, x71, x72, x73, x74, x75, x76, x77, x78, x79, x80, x81, x82, x83, x84, x85, x86, x87, x88, x89, x90, x91, x92, x93, x94, x95, x96, x97, x98, x99, x100, x101, x102, x103, x104, x105, x106, x107, x108, x109, x110, x111, x112, x113, x114, x115, x116, x117, x118, x119, x120, x121, x122, x123, x124, x125, x126, x127, x128, x129, x130, x131, x132, x133, x134, x135, x136, x137, x138, x139, x140, x141, x142, x143, x144, x145, x146, x147, x148, x149, x150, x151, x152, x153, x154, x155, x156, x157, x158, x159, x160, x161, x162, x163, x164, x165, x166, x167, x168, x169, x170, x171, x172, x173, x174, x175, x176, x177, x178, x179, x180, x181, x182, x183, x184, x185, x186, x187, x188, x189, x190, x191, x192, x193, x194, x195, x196, x197, x198, x199, x200, x201, x202, x203, x204, x205, x206, x207, x208, x209, x210, x211, x212, x213, x214, x215, x216, x217, x218, x219, x220, x221, x222, x223, x224, x225, x226, x227, x228, x229, x230, x231, x232, x233, x234, x235, x236, x237, x238, x239, x240, x241, x242, x243, x244, x245, x246, x247, x248, x249, x250, x251, x252], defers := [] } wx := by
  have hE0 : (E != 0) = true := by simpa using hE
  have HB := Lib.hid hb
  clear hE hb
  conv => arg 2; whnf
  go_wp2
  go_ret
  exact ⟨rfl, HB.out⟩
theorem keep7 {v W W1 : World} {b1 b2 b3 b4 b5 o1 o2 o3 o4 o5 : Nat} {a1 a2 a3 a4 a5 : Value} (H : Below v.heap.size v W ∧ W.cell? ⟨b1, o1, none⟩ = some a1 ∧ W.cell? ⟨b2, o2, none⟩ = some a2 ∧ W.cell? ⟨b3, o3, none⟩ = some a3 ∧ W.cell? ⟨b4, o4, none⟩ = some a4 ∧ W.cell? ⟨b5, o5, none⟩ = some a5) (hb : Below W.heap.size W W1) : Below v.heap.size v W1 ∧ W1.cell? ⟨b1, o1, none⟩ = some a1 ∧ W1.cell? ⟨b2, o2, none⟩ = some a2 ∧ W1.cell? ⟨b3, o3, none⟩ = some a3 ∧ W1.cell? ⟨b4, o4, none⟩ = some a4 ∧ W1.cell? ⟨b5, o5, none⟩ = some a5 := by
  obtain ⟨h0, h1, h2, h3, h4, h5⟩ := H
  exact ⟨Gen.over hb h0, Gen.keep hb h1, Gen.keep hb h2, Gen.keep hb h3, Gen.keep hb h4, Gen.keep hb h5⟩
set_option maxRecDepth 100000 in
set_option maxHeartbeats 16000000 in
theorem ap_ok1 (hn : l.length = n) (hc : Pcl wx (some ⟨b, off, none⟩) l) (hv : rgtL l = true) (hn12 : n ≤ 12) (hx : l[p]? = some ⟨xi, xu, xp, xl, xs⟩) (hr : Row wx gx 27 #[.int .i64 kq, .int .i64 (p : Int), .int .i64 co, .int .i64 wh, .int .i64 d]) (h2 : Pcl wx (some ⟨g2, 0, none⟩) (l.set p ⟨xi, xu, xp, lo, se⟩)) (hk : kq ≠ 0) (hb : Below w.heap.size w wx) :
    Code.wp Try.prog (tailO 8 Try.f6.body) (bodyPost Try.prog Try.f6 fun e w' => e = .returned (.bool true) ∧ Below w.heap.size w w') { tmps := #[.slice (some ⟨b, off, none⟩) n cap, x1, x2, x3, .pointer (some ⟨gx, 0, none⟩), x5, x6, .bool true, x8, .slice (some ⟨g2, 0, none⟩) n c2, x10, .int .i64 0, x12, x13, x14, x15, x16, x17, x18, x19, x20, x21, x22, x23, x24, x25, x26, x27, x28, x29, x30, x31, x32, x33, x34, x35, x36, x37, x38, x39, x40, x41, x42, x43, x44, x45, x46, x47, x48, x49, x50, x51, x52, x53, x54, x55, x56, x57, x58, x59, x60, x61, x62, x63, x64, x65, x66, x67, x68, x69, x70, x71, x72, x73, x74, x75, x76, x77, x78, x79, x80, x81, x82, x83, x84, x85, x86, x87, x88, x89, x90, x91, x92, x93, x94, x95, x96, x97, x98, x99, x100, x101, x102, x103, x104, x105, x106, x107, x108, x109, x110, x111, x112, x113, x114, x115, x116, x117, x118, x119, x120, x121, x122, x123, x124, x125, x126, x127, x128, x129, x130, x131, x132, x133, x134, x135, x136, x137, x138, x139, x140, x141, x142, x143, x144, x145, x146, x147, x148, x149, x150, x151, x152, x153, x154, x155, x156, x157, x158, x159, x160, x161, x162, x163, x164, x165, x166, x167, x168, x169, x170, x171, x172, x173, x174, x175, x176, x177, x178, x179, x180, x181, x182, x183, x184, x185, x186, x187, x188, x189, x190, x191, x192, x193, x194, x195, x196, x197, x198, x199, x200, x201, x202, x203, x204, x205, x206, x207, x208, x209, x210, x211, x212, x213, x214, x215, x216, x217, x218, x219, x220, x221, x222, x223, x224, x225, x226, x227, x228, x229, x230, x231, x232, x233, x234, x235, x236, x237, x238, x239, x240, x241, x242, x243, x244, x245, x246, x247, x248, x249, x250, x251, x252], defers := [] } wx := by
  have hkF : (kq == 0) = false := by simpa using hk
  have hp := lt_of_at hx
  have p0 : (0 : Int) ≤ (p : Int) := by omega
  have p1 : (p : Int) < (n : Int) := by omega
  have HS := Lib.hid (rgt_size hv)
  have HV := Lib.hid hv
  have HN := Lib.hid hn
  have HX := Lib.hid hx
  have HC := Lib.hid hc
  have HC2 := Lib.hid h2
  have HR := Lib.hid hr
  have HB := Lib.hid hb
  have HY : Hid ((l.set p ⟨xi, xu, xp, lo, se⟩)[p]? = some ⟨xi, xu, xp, lo, se⟩) := Lib.hid (List.getElem?_set_self (by omega))
  have HSY : Hid (∀ z ∈ l.set p ⟨xi, xu, xp, lo, se⟩, z.pd.length ≤ 400) := Lib.hid (fun z hz => by
    rcases List.mem_or_eq_of_mem_set hz with hz | rfl
    · exact HS.out z hz
    · have := HS.out _ (mem_of_at hx)
      simpa using this)
  have hn0 : 0 < n := by omega
  have hbl := World.block_lt_of_cell? _ _ (pcl_cells hc hx).c0
  clear hc h2 hr hb hv hx hn
  conv => arg 2; whnf
  go_wp2_with (fail)
  go_must (refine (rcopied_any _ n cap l wx HN.out HC.out hn0 (by omega) HS.out).mono ?_)
  rintro e w4 ⟨g, c, P, rfl, hC, hP⟩
  have hlen : P.length = n := by rw [← HN.out, ← hP, List.length_map]
  obtain ⟨u, hu⟩ := at_map hP HX.out
  have hC2 := hC.put hlen hu (x' := ⟨xi, xu, xp, lo, xs⟩) rfl (o := 3) (by omega) (v := .int .i64 lo) rfl
  have hu2 : (P.set p ((⟨xi, xu, xp, lo, xs⟩ : Pc), u))[p]? = some (⟨xi, xu, xp, lo, xs⟩, u) := List.getElem?_set_self (by omega)
  have hlen2 : (P.set p ((⟨xi, xu, xp, lo, xs⟩ : Pc), u)).length = n := by rw [List.length_set]; exact hlen
  have HCD := Lib.hid (show Cpi wx wx.heap.size (w4.setCell ⟨g, p * 5 + 3, none⟩ (.int .i64 lo)).drew g c n _ from ⟨hC2.o, hC2.pd, hC2.dj, hC2.ap, hC2.rest, hC2.bl.drew, hC2.lo⟩)
  have HU2 := Lib.hid hu2
  have HL2 := Lib.hid hlen2
  have HP := Lib.hid hP
  have a1 := (HR.out.keep hC.bl).cell 1
  have dd := (pcl_cells (HC2.out.keep hC.bl) HY.out).c3
  have q3 := (hC.cells hu).2.2.2.1
  have f3 : w4.frozen? ⟨g, p * 5 + 3, none⟩ = false := own_frozen hC.o
  try rw [Nat.zero_add] at dd
  try dsimp only at dd q3
  clear hC hC2 hu hu2 hlen hlen2 hP
  go_wp2
  go_still_tail 11, (by kernel_rfl)
  go_upto_region 27 with (fail)
  clear a1 dd q3 f3
  generalize (w4.setCell ⟨g, p * 5 + 3, none⟩ (.int .i64 lo)).drew = W5 at *
  have hC3 := HCD.out.put HL2.out HU2.out (x' := ⟨xi, xu, xp, lo, se⟩) rfl (o := 4) (by omega) (v := .int .i64 se) rfl
  have HCE := Lib.hid (show Cpi wx wx.heap.size (W5.setCell ⟨g, p * 5 + 4, none⟩ (.int .i64 se)).drew g c n _ from ⟨hC3.o, hC3.pd, hC3.dj, hC3.ap, hC3.rest, hC3.bl.drew, hC3.lo⟩)
  have a1 := (HR.out.keep HCD.out.bl).cell 1
  have dd := (pcl_cells (HC2.out.keep HCD.out.bl) HY.out).c4
  have q3 := (HCD.out.cells HU2.out).2.2.2.2
  have f3 : W5.frozen? ⟨g, p * 5 + 4, none⟩ = false := own_frozen HCD.out.o
  try rw [Nat.zero_add] at dd
  try dsimp only at dd q3
  clear hC3
  go_wp2
  go_still_tail 11, (by kernel_rfl)
  go_upto_region 28 with (fail)
  clear a1 dd q3 f3
  generalize (W5.setCell ⟨g, p * 5 + 4, none⟩ (.int .i64 se)).drew = W6 at *
  have r0 := (HR.out.keep HCE.out.bl).cell 0
  have hpl := HCE.out.pcl (by rw [List.length_set]; exact HL2.out)
  rw [List.set_set, List.map_set, HP.out] at hpl
  have H6 := Lib.hid hpl
  have HB6 := Lib.hid (Gen.over HCE.out.bl HB.out)
  have HC6 := Lib.hid (HC2.out.keep HCE.out.bl)
  clear hpl HCD HU2 HL2 HP HCE
  go_wp2_with (fail)
  go_must (refine (same_eq _ _ n _ _ (l.set p ⟨xi, xu, xp, lo, se⟩) _ (by rw [List.length_set]; exact HN.out) HC6.out H6.out HSY.out (by omega)).mono ?_)
  rintro e w9 ⟨rfl, hb9⟩
  go_wp2
  go_ret
  exact ⟨rfl, Gen.over hb9 HB6.out⟩
set_option maxRecDepth 100000 in
set_option maxHeartbeats 16000000 in
theorem ap_ok0 {k : Nat} (hn : l.length = n) (hc : Pcl wx (some ⟨b, off, none⟩) l) (hv : rgtL l = true) (hn12 : n ≤ 12) (hx : l[p]? = some ⟨xi, xu, xp, xl, xs⟩) (hr : Row wx gx 27 #[.int .i64 0, .int .i64 (p : Int), .int .i64 (k : Int), .int .i64 wh, .int .i64 d]) (h2 : Pcl wx (some ⟨g2, 0, none⟩) (l.set p ⟨xi, xu, xp.set k true, xl, xs⟩)) (hk : xp[k]? = some false) (hb : Below w.heap.size w wx) :
    Code.wp Try.prog (tailO 8 Try.f6.body) (bodyPost Try.prog Try.f6 fun e w' => e = .returned (.bool true) ∧ Below w.heap.size w w') { tmps := #[.slice (some ⟨b, off, none⟩) n cap, x1, x2, x3, .pointer (some ⟨gx, 0, none⟩), x5, x6, .bool true, x8, .slice (some ⟨g2, 0, none⟩) n c2, x10, .int .i64 0, x12, x13, x14, x15, x16, x17, x18, x19, x20, x21, x22, x23, x24, x25, x26, x27, x28, x29, x30, x31, x32, x33, x34, x35, x36, x37, x38, x39, x40, x41, x42, x43, x44, x45, x46, x47, x48, x49, x50, x51, x52, x53, x54, x55, x56, x57, x58, x59, x60, x61, x62, x63, x64, x65, x66, x67, x68, x69, x70, x71, x72, x73, x74, x75, x76, x77, x78, x79, x80, x81, x82, x83, x84, x85, x86, x87, x88, x89, x90, x91, x92, x93, x94, x95, x96, x97, x98, x99, x100, x101, x102, x103, x104, x105, x106, x107, x108, x109, x110, x111, x112, x113, x114, x115, x116, x117, x118, x119, x120, x121, x122, x123, x124, x125, x126, x127, x128, x129, x130, x131, x132, x133, x134, x135, x136, x137, x138, x139, x140, x141, x142, x143, x144, x145, x146, x147, x148, x149, x150, x151, x152, x153, x154, x155, x156, x157, x158, x159, x160, x161, x162, x163, x164, x165, x166, x167, x168, x169, x170, x171, x172, x173, x174, x175, x176, x177, x178, x179, x180, x181, x182, x183, x184, x185, x186, x187, x188, x189, x190, x191, x192, x193, x194, x195, x196, x197, x198, x199, x200, x201, x202, x203, x204, x205, x206, x207, x208, x209, x210, x211, x212, x213, x214, x215, x216, x217, x218, x219, x220, x221, x222, x223, x224, x225, x226, x227, x228, x229, x230, x231, x232, x233, x234, x235, x236, x237, x238, x239, x240, x241, x242, x243, x244, x245, x246, x247, x248, x249, x250, x251, x252], defers := [] } wx := by
  have hp := lt_of_at hx
  have p0 : (0 : Int) ≤ (p : Int) := by omega
  have p1 : (p : Int) < (n : Int) := by omega
  have HS := Lib.hid (rgt_size hv)
  have HV := Lib.hid hv
  have HN := Lib.hid hn
  have HX := Lib.hid hx
  have HC := Lib.hid hc
  have HC2 := Lib.hid h2
  have HR := Lib.hid hr
  have HB := Lib.hid hb
  have HY : Hid ((l.set p ⟨xi, xu, xp.set k true, xl, xs⟩)[p]? = some ⟨xi, xu, xp.set k true, xl, xs⟩) := Lib.hid (List.getElem?_set_self (by omega))
  have HSY : Hid (∀ z ∈ l.set p ⟨xi, xu, xp.set k true, xl, xs⟩, z.pd.length ≤ 400) := Lib.hid (fun z hz => by
    rcases List.mem_or_eq_of_mem_set hz with hz | rfl
    · exact HS.out z hz
    · have := HS.out _ (mem_of_at hx)
      simpa using this)
  have hn0 : 0 < n := by omega
  have hbl := World.block_lt_of_cell? _ _ (pcl_cells hc hx).c0
  clear hc h2 hr hb hv hx hn
  conv => arg 2; whnf
  go_wp2_with (fail)
  go_must (refine (rcopied_any _ n cap l wx HN.out HC.out hn0 (by omega) HS.out).mono ?_)
  rintro e w4 ⟨g, c, P, rfl, hC, hP⟩
  have hlen : P.length = n := by rw [← HN.out, ← hP, List.length_map]
  obtain ⟨u, hu⟩ := at_map hP HX.out
  have hC2 := hC.put hlen hu (x' := ⟨xi, xu, xp, xl, xs⟩) rfl (o := 3) (by omega) (v := .int .i64 xl) rfl
  have hu2 : (P.set p ((⟨xi, xu, xp, xl, xs⟩ : Pc), u))[p]? = some (⟨xi, xu, xp, xl, xs⟩, u) := List.getElem?_set_self (by omega)
  have hlen2 : (P.set p ((⟨xi, xu, xp, xl, xs⟩ : Pc), u)).length = n := by rw [List.length_set]; exact hlen
  have HCD := Lib.hid (show Cpi wx wx.heap.size (w4.setCell ⟨g, p * 5 + 3, none⟩ (.int .i64 xl)).drew g c n _ from ⟨hC2.o, hC2.pd, hC2.dj, hC2.ap, hC2.rest, hC2.bl.drew, hC2.lo⟩)
  have HU2 := Lib.hid hu2
  have HL2 := Lib.hid hlen2
  have HP := Lib.hid hP
  have a1 := (HR.out.keep hC.bl).cell 1
  have dd := (pcl_cells (HC2.out.keep hC.bl) HY.out).c3
  have q3 := (hC.cells hu).2.2.2.1
  have f3 : w4.frozen? ⟨g, p * 5 + 3, none⟩ = false := own_frozen hC.o
  try rw [Nat.zero_add] at dd
  try dsimp only at dd q3
  clear hC hC2 hu hu2 hlen hlen2 hP
  go_wp2
  go_still_tail 11, (by kernel_rfl)
  go_upto_region 27 with (fail)
  clear a1 dd q3 f3
  generalize (w4.setCell ⟨g, p * 5 + 3, none⟩ (.int .i64 xl)).drew = W5 at *
  have hC3 := HCD.out.put HL2.out HU2.out (x' := ⟨xi, xu, xp, xl, xs⟩) rfl (o := 4) (by omega) (v := .int .i64 xs) rfl
  have HCE := Lib.hid (show Cpi wx wx.heap.size (W5.setCell ⟨g, p * 5 + 4, none⟩ (.int .i64 xs)).drew g c n _ from ⟨hC3.o, hC3.pd, hC3.dj, hC3.ap, hC3.rest, hC3.bl.drew, hC3.lo⟩)
  have a1 := (HR.out.keep HCD.out.bl).cell 1
  have dd := (pcl_cells (HC2.out.keep HCD.out.bl) HY.out).c4
  have q3 := (HCD.out.cells HU2.out).2.2.2.2
  have f3 : W5.frozen? ⟨g, p * 5 + 4, none⟩ = false := own_frozen HCD.out.o
  try rw [Nat.zero_add] at dd
  try dsimp only at dd q3
  clear hC3
  go_wp2
  go_still_tail 11, (by kernel_rfl)
  go_upto_region 28 with (fail)
  clear a1 dd q3 f3
  generalize (W5.setCell ⟨g, p * 5 + 4, none⟩ (.int .i64 xs)).drew = W6 at *
  have r0 := (HR.out.keep HCE.out.bl).cell 0
  have hl3 : ((P.set p ((⟨xi, xu, xp, xl, xs⟩ : Pc), u)).set p (⟨xi, xu, xp, xl, xs⟩, u)).length = n := by rw [List.length_set]; exact HL2.out
  have hu3 : ((P.set p ((⟨xi, xu, xp, xl, xs⟩ : Pc), u)).set p (⟨xi, xu, xp, xl, xs⟩, u))[p]? = some (⟨xi, xu, xp, xl, xs⟩, u) := List.getElem?_set_self (by rw [HL2.out]; omega)
  have hkl := lt_of_at hk
  have k0 : (0 : Int) ≤ (k : Int) := by omega
  have k1 : (k : Int) < (xp.length : Int) := by omega
  have k2 : xp.length ≤ 400 := HS.out _ (mem_of_at HX.out)
  have hpd := HCE.out.pd p _ (by omega) hu3
  have hown : W6.ownsRow wx.heap.size 4 1 u xp.length (xp.map Value.bool) := by
    rcases hpd with ⟨t, _⟩ | ⟨_, t⟩
    · have t : xp = [] := t
      rw [t] at hkl; simp at hkl
    · exact t
  obtain ⟨q, cq, hq, _, _⟩ := hown.form (by omega)
  subst hq
  have q2 := (HCE.out.cells hu3).2.2.1
  dsimp only at q2
  have e7 : W6.cell? ⟨q, k, none⟩ = some (.bool false) := by
    have := hown.cellAt k (by omega)
    rw [List.getElem?_map, hk] at this
    exact this
  have f7 : W6.frozen? ⟨q, k, none⟩ = false := own_frozen hown
  have hC4 := HCE.out.pay hl3 hu3 hkl
  have HCF := Lib.hid (show Cpi wx wx.heap.size (W6.setCell ⟨q, k, none⟩ (.bool true)).drew g c n _ from ⟨hC4.o, hC4.pd, hC4.dj, hC4.ap, hC4.rest, hC4.bl.drew, hC4.lo⟩)
  have HL3 := Lib.hid hl3
  have r1 := (HR.out.keep HCE.out.bl).cell 1
  have r2 := (HR.out.keep HCE.out.bl).cell 2
  clear hC4 hown hpd hk hl3 hu3
  go_wp2
  go_still_tail 9, (by kernel_rfl)
  go_upto_region 30 with (fail)
  clear e7 f7 q2 r0 r1 r2
  generalize (W6.setCell ⟨q, k, none⟩ (.bool true)).drew = W7 at *
  have hpl := HCF.out.pcl (by rw [List.length_set]; exact HL3.out)
  rw [List.set_set, List.set_set, List.map_set, HP.out] at hpl
  have H6 := Lib.hid hpl
  have HB6 := Lib.hid (Gen.over HCF.out.bl HB.out)
  have HC6 := Lib.hid (HC2.out.keep HCF.out.bl)
  have s1 := (HR.out.keep HCF.out.bl).cell 1
  have s2 := (pcl_cells (HC2.out.keep HCF.out.bl) HY.out).c3
  have s3 := (pcl_cells (HC2.out.keep HCF.out.bl) HY.out).c4
  have s4 := (pcl_cells (HC.out.keep HCF.out.bl) HX.out).c3
  have s5 := (pcl_cells (HC.out.keep HCF.out.bl) HX.out).c4
  try rw [Nat.zero_add] at s2 s3
  try dsimp only at s1 s2 s3 s4 s5
  have HS7 := Lib.hid (show Below W7.heap.size W7 W7.drew ∧ W7.drew.cell? ⟨gx, 1, none⟩ = some (.int .i64 (p : Int)) ∧ W7.drew.cell? ⟨g2, p * 5 + 3, none⟩ = some (.int .i64 xl) ∧ W7.drew.cell? ⟨g2, p * 5 + 4, none⟩ = some (.int .i64 xs) ∧ W7.drew.cell? ⟨b, off + p * 5 + 3, none⟩ = some (.int .i64 xl) ∧ W7.drew.cell? ⟨b, off + p * 5 + 4, none⟩ = some (.int .i64 xs) from ⟨(Below.refl _ _).drew, s1, s2, s3, s4, s5⟩)
  clear hpl HCD HU2 HL2 HL3 HP HCE HCF
  go_region_held3 (fun W' : World => Below W7.heap.size W7 W' ∧ W'.cell? ⟨gx, 1, none⟩ = some (.int .i64 (p : Int)) ∧ W'.cell? ⟨g2, p * 5 + 3, none⟩ = some (.int .i64 xl) ∧ W'.cell? ⟨g2, p * 5 + 4, none⟩ = some (.int .i64 xs) ∧ W'.cell? ⟨b, off + p * 5 + 3, none⟩ = some (.int .i64 xl) ∧ W'.cell? ⟨b, off + p * 5 + 4, none⟩ = some (.int .i64 xs))
    (first | assumption | exact HS7.out | fail "keep")
    (first
      | (go_at_call 11; with_reducible refine (same_eq _ _ n _ _ (l.set p ⟨xi, xu, xp.set k true, xl, xs⟩) _ (by rw [List.length_set]; exact HN.out) (HC6.out.keep (And.left (by assumption))) (H6.out.keep (And.left (by assumption))) HSY.out (by omega)).mono ?_; rintro e' w' ⟨rfl, hb9⟩; have hS7 := keep7 (by assumption) hb9)
      | fail "arm")
  all_goals
    have HBF := Lib.hid (Gen.over hS7.1 HB6.out)
    go_wp2
    go_ret
    exact ⟨rfl, HBF.out⟩
end
end Go.Proofs.Ythphlaijkknefaa.Bea
