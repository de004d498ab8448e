/- FracField: from the comparison of sums to the products of three. -/
import Derived.Test.YtnifkianjpjahaaGreatDoorLFrD2
import Derived.Deep.DeepCutAuto
import Derived.Deep.RegionHeld3
namespace Go.Proofs.YtnifkianjpjahaaGreatDoor.Bg
open Go.ChangeShapes Go.WideShapes Go.ChangeAt Go.RowKit Go.Proofs.YtnifkianjpjahaaGreatDoor.Cell
set_option linter.unusedVariables false
set_option linter.unusedSimpArgs false
variable {N0 : Nat}
section
variable {p0 q0 p1 q1 p2 q2 : Int} {g_y : Nat} {s_y t_y : Int} {A_y B_y : Option Addr} {n_y c_y m_y d_y : Nat} {g_x : Nat} {s_x t_x : Int} {A_x B_x : Option Addr} {n_x c_x m_x d_x : Nat} {g_ba : Nat} {s_ba t_ba : Int} {A_ba B_ba : Option Addr} {n_ba c_ba m_ba d_ba : Nat} {g_ab : Nat} {s_ab t_ab : Int} {A_ab B_ab : Option Addr} {n_ab c_ab m_ab d_ab : Nat} {g_c : Nat} {s_c t_c : Int} {A_c B_c : Option Addr} {n_c c_c m_c d_c : Nat} {g_b : Nat} {s_b t_b : Int} {A_b B_b : Option Addr} {n_b c_b m_b d_b : Nat} {g_a : Nat} {s_a t_a : Int} {A_a B_a : Option Addr} {n_a c_a m_a d_a : Nat}
variable {x12 x18 x19 x20 x21 x22 x23 x24 x25 x26 x27 x28 x29 x30 x31 x32 x33 x34 x35 x36 x37 x38 x39 x40 x41 x42 x43 x44 x45 x46 x47 x48 x49 x50 x51 x52 x53 x54 x55 x56 x57 x58 x59 x60 x61 x62 x63 x64 x65 x66 x67 x68 x69 x70 x71 x72 x73 x74 x75 x76 x77 x78 x79 x80 x81 x82 x83 x84 x85 x86 x87 x88 x89 x90 x91 x92 x93 x94 x95 x96 x97 x98 x99 x100 x101 x102 x103 x104 x105 x106 x107 x108 x109 x110 x111 x112 x113 x114 x115 x116 x117 x118 x119 x120 x121 x122 x123 x124 x125 x126 x127 x128 x129 x130 x131 x132 x133 x134 x135 x136 x137 x138 x139 x140 x141 x142 x143 x144 x145 x146 x147 x148 x149 x150 x151 x152 x153 x154 x155 x156 x157 x158 x159 x160 x161 x162 x163 x164 x165 x166 x167 x168 x169 x170 x171 x172 x173 x174 x175 x176 x177 x178 x179 x180 x181 x182 x183 x184 x185 x186 x187 x188 x189 x190 x191 x192 x193 x194 x195 x196 x197 x198 x199 x200 x201 x202 x203 x204 x205 x206 x207 x208 x209 x210 x211 x212 x213 x214 x215 x216 x217 x218 x219 x220 x221 x222 x223 x224 x225 x226 x227 x228 x229 x230 x231 x232 x233 x234 x235 x236 x237 x238 x239 x240 x241 x242 x243 x244 x245 x246 x247 x248 x249 x250 x251 x252 x253 x254 x255 x256 x257 x258 x259 x260 x261 x262 x263 x264 x265 x266 x267 x268 x269 x270 x271 x272 x273 x274 x275 x276 x277 x278 x279 x280 x281 x282 x283 x284 x285 x286 x287 x288 x289 x290 x291 x292 x293 x294 x295 x296 x297 x298 x299 x300 x301 x302 x303 x304 x305 x306 x307 x308 x309 x310 x311 x312 x313 x314 x315 x316 x317 x318 x319 x320 x321 x322 x323 x324 x325 x326 x327 x328 x329 x330 x331 x332 : Value}
set_option maxRecDepth 100000 in
set_option maxHeartbeats 16000000 in
theorem ffield_b (w W : World) (he : Env w.heap.size w W [(g_y, frV s_y A_y n_y c_y t_y B_y m_y d_y, (np (p0 * (q1 * q2) + (p1 * q2 + p2 * q1) * q0) (q0 * (q1 * q2))), (nq (p0 * (q1 * q2) + (p1 * q2 + p2 * q1) * q0) (q0 * (q1 * q2)))), (g_x, frV s_x A_x n_x c_x t_x B_x m_x d_x, (np ((p0 * q1 + p1 * q0) * q2 + p2 * (q0 * q1)) ((q0 * q1) * q2)), (nq ((p0 * q1 + p1 * q0) * q2 + p2 * (q0 * q1)) ((q0 * q1) * q2))), (g_ba, frV s_ba A_ba n_ba c_ba t_ba B_ba m_ba d_ba, (np (p1 * q0 + p0 * q1) (q1 * q0)), (nq (p1 * q0 + p0 * q1) (q1 * q0))), (g_ab, frV s_ab A_ab n_ab c_ab t_ab B_ab m_ab d_ab, (np (p0 * q1 + p1 * q0) (q0 * q1)), (nq (p0 * q1 + p1 * q0) (q0 * q1))), (g_c, frV s_c A_c n_c c_c t_c B_c m_c d_c, (np p2 q2), (nq p2 q2)), (g_b, frV s_b A_b n_b c_b t_b B_b m_b d_b, (np p1 q1), (nq p1 q1)), (g_a, frV s_a A_a n_a c_a t_a B_a m_a d_a, (np p0 q0), (nq p0 q0))] []) (hsb : s_b = sg p1) (hz_a : Fz p0 q0 6 6) (hz_b : Fz p1 q1 6 6) (hz_c : Fz p2 q2 6 6) (hz_z0 : Fz (0 : Int) (1 : Int) 1 1) (hz_z1 : Fz (1 : Int) (1 : Int) 1 1) (hz_ab : Fz (p0 * q1 + p1 * q0) (q0 * q1) 13 12) (hz_ba : Fz (p1 * q0 + p0 * q1) (q1 * q0) 13 12) (hz_x1 : Fz ((p0 * q1 + p1 * q0) * q2 + p2 * (q0 * q1)) ((q0 * q1) * q2) 20 18) (hz_y1 : Fz (p0 * (q1 * q2) + (p1 * q2 + p2 * q1) * q0) (q0 * (q1 * q2)) 20 18) (hgx : w.heap.size ≤ g_x) (hgy : w.heap.size ≤ g_y) :
    Code.wp Tryz.prog (tailO 8 Tryz.f5.body) (bodyPost Tryz.prog Tryz.f5 fun e w' => e = .returned (.bool true) ∧ Below w.heap.size w w') { tmps := #[frV s_a A_a n_a c_a t_a B_a m_a d_a, frV s_b A_b n_b c_b t_b B_b m_b d_b, frV s_c A_c n_c c_c t_c B_c m_c d_c, .pointer (some ⟨g_a, 0, none⟩), .pointer (some ⟨g_b, 0, none⟩), .pointer (some ⟨g_c, 0, none⟩), .bool false, .bool true, .pointer (some ⟨g_ab, 0, none⟩), .bool true, .pointer (some ⟨g_ba, 0, none⟩), .bool true, x12, .bool true, .pointer (some ⟨g_x, 0, none⟩), .bool true, .pointer (some ⟨g_y, 0, none⟩), .bool true, x18, x19, x20, x21, x22, x23, x24, x25, x26, x27, x28, x29, x30, x31, x32, x33, x34, x35, x36, x37, x38, x39, x40, x41, x42, x43, x44, x45, x46, x47, x48, x49, x50, x51, x52, x53, x54, x55, x56, x57, x58, x59, x60, x61, x62, x63, x64, x65, x66, x67, x68, x69, x70, x71, x72, x73, x74, x75, x76, x77, x78, x79, x80, x81, x82, x83, x84, x85, x86, x87, x88, x89, x90, x91, x92, x93, x94, x95, x96, x97, x98, x99, x100, x101, x102, x103, x104, x105, x106, x107, x108, x109, x110, x111, x112, x113, x114, x115, x116, x117, x118, x119, x120, x121, x122, x123, x124, x125, x126, x127, x128, x129, x130, x131, x132, x133, x134, x135, x136, x137, x138, x139, x140, x141, x142, x143, x144, x145, x146, x147, x148, x149, x150, x151, x152, x153, x154, x155, x156, x157, x158, x159, x160, x161, x162, x163, x164, x165, x166, x167, x168, x169, x170, x171, x172, x173, x174, x175, x176, x177, x178, x179, x180, x181, x182, x183, x184, x185, x186, x187, x188, x189, x190, x191, x192, x193, x194, x195, x196, x197, x198, x199, x200, x201, x202, x203, x204, x205, x206, x207, x208, x209, x210, x211, x212, x213, x214, x215, x216, x217, x218, x219, x220, x221, x222, x223, x224, x225, x226, x227, x228, x229, x230, x231, x232, x233, x234, x235, x236, x237, x238, x239, x240, x241, x242, x243, x244, x245, x246, x247, x248, x249, x250, x251, x252, x253, x254, x255, x256, x257, x258, x259, x260, x261, x262, x263, x264, x265, x266, x267, x268, x269, x270, x271, x272, x273, x274, x275, x276, x277, x278, x279, x280, x281, x282, x283, x284, x285, x286, x287, x288, x289, x290, x291, x292, x293, x294, x295, x296, x297, x298, x299, x300, x301, x302, x303, x304, x305, x306, x307, x308, x309, x310, x311, x312, x313, x314, x315, x316, x317, x318, x319, x320, x321, x322, x323, x324, x325, x326, x327, x328, x329, x330, x331, x332], defers := [] } W := by
  have HE := Lib.hid he
  have HS_b := Lib.hid hsb
  have HZ_a := Lib.hid hz_a
  have HZ_b := Lib.hid hz_b
  have HZ_c := Lib.hid hz_c
  have HZ_z0 := Lib.hid hz_z0
  have HZ_z1 := Lib.hid hz_z1
  have HZ_ab := Lib.hid hz_ab
  have HZ_ba := Lib.hid hz_ba
  have HZ_x1 := Lib.hid hz_x1
  have HZ_y1 := Lib.hid hz_y1
  have HGE_x := Lib.hid hgx
  have HGE_y := Lib.hid hgy
  clear he hsb hgx hgy hz_a hz_b hz_c hz_z0 hz_z1 hz_ab hz_ba hz_x1 hz_y1
  conv => arg 2; whnf
  have cf1 := (HE.out.fr (i := 3) rfl).cell 0
  have cf2 := (HE.out.fr (i := 3) rfl).cell 1
  have cf3 := (HE.out.fr (i := 3) rfl).cell 2
  have cf4 := (HE.out.fr (i := 3) rfl).cell 3
  have cf5 := (HE.out.fr (i := 2) rfl).cell 0
  have cf6 := (HE.out.fr (i := 2) rfl).cell 1
  have cf7 := (HE.out.fr (i := 2) rfl).cell 2
  have cf8 := (HE.out.fr (i := 2) rfl).cell 3
  go_wp2_with (fail)
  go_must (refine (fsame_z _ (HE.out.fp (i := 3) rfl) (HE.out.fq (i := 3) rfl) (HE.out.fp (i := 2) rfl) (HE.out.fq (i := 2) rfl) HZ_ab.out.ne HZ_ba.out.ne (by grind)).mono ?_)
  rintro e W1 ⟨rfl, hb⟩
  replace HE := Lib.hid (HE.out.keep hb)
  clear hb
  clear cf1 cf2 cf3 cf4 cf5 cf6 cf7 cf8
  have cf9 := (HE.out.fr (i := 1) rfl).cell 0
  have cf10 := (HE.out.fr (i := 1) rfl).cell 1
  have cf11 := (HE.out.fr (i := 1) rfl).cell 2
  have cf12 := (HE.out.fr (i := 1) rfl).cell 3
  have cf13 := (HE.out.fr (i := 0) rfl).cell 0
  have cf14 := (HE.out.fr (i := 0) rfl).cell 1
  have cf15 := (HE.out.fr (i := 0) rfl).cell 2
  have cf16 := (HE.out.fr (i := 0) rfl).cell 3
  go_wp2_with (fail)
  go_must (refine (fsame_z _ (HE.out.fp (i := 1) rfl) (HE.out.fq (i := 1) rfl) (HE.out.fp (i := 0) rfl) (HE.out.fq (i := 0) rfl) HZ_x1.out.ne HZ_y1.out.ne (by grind)).mono ?_)
  rintro e W2 ⟨rfl, hb⟩
  replace HE := Lib.hid (HE.out.keep hb)
  clear hb
  clear cf9 cf10 cf11 cf12 cf13 cf14 cf15 cf16
  replace HE := Lib.hid (HE.out.sub (.cons_cons _ (.cons_cons _ (.cons _ (.cons_cons _ (.cons_cons _ (.cons_cons _ (.cons_cons _ .slnil))))))) (.refl _))
  have HZ_m : Hid (Fz (p0 * p1) (q0 * q1) 12 12) := Lib.hid (HZ_a.out.mul HZ_b.out)
  have cf17 := (HE.out.fr (i := 5) rfl).cell 0
  have cf18 := (HE.out.fr (i := 5) rfl).cell 1
  have cf19 := (HE.out.fr (i := 5) rfl).cell 2
  have cf20 := (HE.out.fr (i := 5) rfl).cell 3
  have cf21 := (HE.out.fr (i := 4) rfl).cell 0
  have cf22 := (HE.out.fr (i := 4) rfl).cell 1
  have cf23 := (HE.out.fr (i := 4) rfl).cell 2
  have cf24 := (HE.out.fr (i := 4) rfl).cell 3
  go_wp2_with (fail)
  go_must (refine (fmul_z _ HE.out.size (HE.out.fp (i := 5) rfl) (HE.out.fq (i := 5) rfl) (HE.out.fp (i := 4) rfl) (HE.out.fq (i := 4) rfl) HZ_a.out HZ_b.out (by omega)).mono ?_)
  rintro e W3 ⟨s3, A3, n3, c3, t3, B3, m3, d3, rfl, hp3, hq3, hb⟩
  replace HE := Lib.hid (HE.out.keep hb)
  clear hb
  clear cf17 cf18 cf19 cf20 cf21 cf22 cf23 cf24
  have Hhp3 := Lib.hid hp3
  clear hp3
  have Hhq3 := Lib.hid hq3
  clear hq3
  go_wp2_with (fail)
  go_must (refine (lright_yes _ HE.out.size Hhp3.out Hhq3.out HZ_m.out.rt).mono ?_)
  rintro e W4 ⟨rfl, hb, _, _⟩
  replace HE := Lib.hid (HE.out.keep hb)
  replace Hhp3 := Lib.hid (Hhp3.out.keep hb)
  replace Hhq3 := Lib.hid (Hhq3.out.keep hb)
  clear hb
  have HGE_m : Hid (w.heap.size ≤ W4.heap.size) := Lib.hid HE.out.b.size
  replace HE := Lib.hid (HE.out.adF Hhp3.out Hhq3.out)
  clear Hhp3 Hhq3
  have HZ_n : Hid (Fz (p1 * p0) (q1 * q0) 12 12) := Lib.hid (HZ_b.out.mul HZ_a.out)
  have cf25 := (HE.out.fr (i := 5) rfl).cell 0
  have cf26 := (HE.out.fr (i := 5) rfl).cell 1
  have cf27 := (HE.out.fr (i := 5) rfl).cell 2
  have cf28 := (HE.out.fr (i := 5) rfl).cell 3
  have cf29 := (HE.out.fr (i := 6) rfl).cell 0
  have cf30 := (HE.out.fr (i := 6) rfl).cell 1
  have cf31 := (HE.out.fr (i := 6) rfl).cell 2
  have cf32 := (HE.out.fr (i := 6) rfl).cell 3
  go_wp2_with (fail)
  go_must (refine (fmul_z _ HE.out.size (HE.out.fp (i := 5) rfl) (HE.out.fq (i := 5) rfl) (HE.out.fp (i := 6) rfl) (HE.out.fq (i := 6) rfl) HZ_b.out HZ_a.out (by omega)).mono ?_)
  rintro e W5 ⟨s5, A5, n5, c5, t5, B5, m5, d5, rfl, hp5, hq5, hb⟩
  replace HE := Lib.hid (HE.out.keep hb)
  clear hb
  clear cf25 cf26 cf27 cf28 cf29 cf30 cf31 cf32
  have Hhp5 := Lib.hid hp5
  clear hp5
  have Hhq5 := Lib.hid hq5
  clear hq5
  go_wp2_with (fail)
  go_must (refine (lright_yes _ HE.out.size Hhp5.out Hhq5.out HZ_n.out.rt).mono ?_)
  rintro e W6 ⟨rfl, hb, _, _⟩
  replace HE := Lib.hid (HE.out.keep hb)
  replace Hhp5 := Lib.hid (Hhp5.out.keep hb)
  replace Hhq5 := Lib.hid (Hhq5.out.keep hb)
  clear hb
  have HGE_n : Hid (w.heap.size ≤ W6.heap.size) := Lib.hid HE.out.b.size
  replace HE := Lib.hid (HE.out.adF Hhp5.out Hhq5.out)
  clear Hhp5 Hhq5
  have HZ_p : Hid (Fz (p1 * p2) (q1 * q2) 12 12) := Lib.hid (HZ_b.out.mul HZ_c.out)
  have cf33 := (HE.out.fr (i := 6) rfl).cell 0
  have cf34 := (HE.out.fr (i := 6) rfl).cell 1
  have cf35 := (HE.out.fr (i := 6) rfl).cell 2
  have cf36 := (HE.out.fr (i := 6) rfl).cell 3
  have cf37 := (HE.out.fr (i := 5) rfl).cell 0
  have cf38 := (HE.out.fr (i := 5) rfl).cell 1
  have cf39 := (HE.out.fr (i := 5) rfl).cell 2
  have cf40 := (HE.out.fr (i := 5) rfl).cell 3
  go_wp2_with (fail)
  go_must (refine (fmul_z _ HE.out.size (HE.out.fp (i := 6) rfl) (HE.out.fq (i := 6) rfl) (HE.out.fp (i := 5) rfl) (HE.out.fq (i := 5) rfl) HZ_b.out HZ_c.out (by omega)).mono ?_)
  rintro e W7 ⟨s7, A7, n7, c7, t7, B7, m7, d7, rfl, hp7, hq7, hb⟩
  replace HE := Lib.hid (HE.out.keep hb)
  clear hb
  clear cf33 cf34 cf35 cf36 cf37 cf38 cf39 cf40
  have Hhp7 := Lib.hid hp7
  clear hp7
  have Hhq7 := Lib.hid hq7
  clear hq7
  go_wp2_with (fail)
  go_must (refine (lright_yes _ HE.out.size Hhp7.out Hhq7.out HZ_p.out.rt).mono ?_)
  rintro e W8 ⟨rfl, hb, _, _⟩
  replace HE := Lib.hid (HE.out.keep hb)
  replace Hhp7 := Lib.hid (Hhp7.out.keep hb)
  replace Hhq7 := Lib.hid (Hhq7.out.keep hb)
  clear hb
  have HGE_p : Hid (w.heap.size ≤ W8.heap.size) := Lib.hid HE.out.b.size
  replace HE := Lib.hid (HE.out.adF Hhp7.out Hhq7.out)
  clear Hhp7 Hhq7
  have HZ_x2 : Hid (Fz ((p0 * p1) * p2) ((q0 * q1) * q2) 18 18) := Lib.hid (HZ_m.out.mul HZ_c.out)
  have cf41 := (HE.out.fr (i := 2) rfl).cell 0
  have cf42 := (HE.out.fr (i := 2) rfl).cell 1
  have cf43 := (HE.out.fr (i := 2) rfl).cell 2
  have cf44 := (HE.out.fr (i := 2) rfl).cell 3
  have cf45 := (HE.out.fr (i := 6) rfl).cell 0
  have cf46 := (HE.out.fr (i := 6) rfl).cell 1
  have cf47 := (HE.out.fr (i := 6) rfl).cell 2
  have cf48 := (HE.out.fr (i := 6) rfl).cell 3
  go_wp2_with (fail)
  go_must (refine (fmul_z _ HE.out.size (HE.out.fp (i := 2) rfl) (HE.out.fq (i := 2) rfl) (HE.out.fp (i := 6) rfl) (HE.out.fq (i := 6) rfl) HZ_m.out HZ_c.out (by omega)).mono ?_)
  rintro e W9 ⟨s9, A9, n9, c9, t9, B9, m9, d9, rfl, hp9, hq9, hb⟩
  replace HE := Lib.hid (HE.out.keep hb)
  clear hb
  clear cf41 cf42 cf43 cf44 cf45 cf46 cf47 cf48
  have Hhp9 := Lib.hid hp9
  clear hp9
  have Hhq9 := Lib.hid hq9
  clear hq9
  go_wp2_with (fail)
  go_must (refine (lright_yes _ HE.out.size Hhp9.out Hhq9.out HZ_x2.out.rt).mono ?_)
  rintro e W10 ⟨rfl, hb, _, _⟩
  replace HE := Lib.hid (HE.out.keep hb)
  replace Hhp9 := Lib.hid (Hhp9.out.keep hb)
  replace Hhq9 := Lib.hid (Hhq9.out.keep hb)
  clear hb
  have HR := Lib.hid (HE.out.fr (i := 4) rfl)
  have gr0 := HR.out.frozen 0
  have gc0 := HR.out.cell 0
  have gr1 := HR.out.frozen 1
  have gc1 := HR.out.cell 1
  have gr2 := HR.out.frozen 2
  have gc2 := HR.out.cell 2
  have gr3 := HR.out.frozen 3
  have gc3 := HR.out.cell 3
  have hlt2 := HR.out.lt
  replace HE := Lib.hid (Env.ptF (L1 := [(W8.heap.size, frV s7 A7 n7 c7 t7 B7 m7 d7, (np (p1 * p2) (q1 * q2)), (nq (p1 * p2) (q1 * q2))), (W6.heap.size, frV s5 A5 n5 c5 t5 B5 m5 d5, (np (p1 * p0) (q1 * q0)), (nq (p1 * p0) (q1 * q0))), (W4.heap.size, frV s3 A3 n3 c3 t3 B3 m3 d3, (np (p0 * p1) (q0 * q1)), (nq (p0 * p1) (q0 * q1))), (g_y, frV s_y A_y n_y c_y t_y B_y m_y d_y, (np (p0 * (q1 * q2) + (p1 * q2 + p2 * q1) * q0) (q0 * (q1 * q2))), (nq (p0 * (q1 * q2) + (p1 * q2 + p2 * q1) * q0) (q0 * (q1 * q2))))]) HE.out HGE_x.out HR.out Hhp9.out Hhq9.out)
  clear Hhp9 Hhq9
  simp only [List.nil_append, List.cons_append] at HE
  have HZ_y2 : Hid (Fz (p0 * (p1 * p2)) (q0 * (q1 * q2)) 18 18) := Lib.hid (HZ_a.out.mul HZ_p.out)
  go_upto_region 15 with (fail)
  unfold set4 at HE
  generalize (((W10.setCell ⟨g_x, 0, none⟩ (.int .i64 s9)).setCell ⟨g_x, 1, none⟩ (.slice A9 n9 c9)).setCell ⟨g_x, 2, none⟩ (.int .i64 t9)).setCell ⟨g_x, 3, none⟩ (.slice B9 m9 d9) = W11 at HE  ⊢
  clear HR gr0 gr1 gr2 gr3 gc0 gc1 gc2 gc3 hlt2
  go_cut [17] (fun d wx => ∃ vs vA vn vc vt vB vm vd, d = .bool true ∧ Hid (Env w.heap.size w wx ((g_y, frV vs vA vn vc vt vB vm vd, (np (p0 * (p1 * p2)) (q0 * (q1 * q2))), (nq (p0 * (p1 * p2)) (q0 * (q1 * q2)))) :: [(g_x, frV s9 A9 n9 c9 t9 B9 m9 d9, (np ((p0 * p1) * p2) ((q0 * q1) * q2)), (nq ((p0 * p1) * p2) ((q0 * q1) * q2))), (W8.heap.size, frV s7 A7 n7 c7 t7 B7 m7 d7, (np (p1 * p2) (q1 * q2)), (nq (p1 * p2) (q1 * q2))), (W6.heap.size, frV s5 A5 n5 c5 t5 B5 m5 d5, (np (p1 * p0) (q1 * q0)), (nq (p1 * p0) (q1 * q0))), (W4.heap.size, frV s3 A3 n3 c3 t3 B3 m3 d3, (np (p0 * p1) (q0 * q1)), (nq (p0 * p1) (q0 * q1))), (g_ab, frV s_ab A_ab n_ab c_ab t_ab B_ab m_ab d_ab, (np (p0 * q1 + p1 * q0) (q0 * q1)), (nq (p0 * q1 + p1 * q0) (q0 * q1))), (g_c, frV s_c A_c n_c c_c t_c B_c m_c d_c, (np p2 q2), (nq p2 q2)), (g_b, frV s_b A_b n_b c_b t_b B_b m_b d_b, (np p1 q1), (nq p1 q1)), (g_a, frV s_a A_a n_a c_a t_a B_a m_a d_a, (np p0 q0), (nq p0 q0))]) []))
  case first =>
    have cf49 := (HE.out.fr (i := 8) rfl).cell 0
    have cf50 := (HE.out.fr (i := 8) rfl).cell 1
    have cf51 := (HE.out.fr (i := 8) rfl).cell 2
    have cf52 := (HE.out.fr (i := 8) rfl).cell 3
    have cf53 := (HE.out.fr (i := 1) rfl).cell 0
    have cf54 := (HE.out.fr (i := 1) rfl).cell 1
    have cf55 := (HE.out.fr (i := 1) rfl).cell 2
    have cf56 := (HE.out.fr (i := 1) rfl).cell 3
    go_wp2_with (fail)
    go_must (refine (fmul_z _ HE.out.size (HE.out.fp (i := 8) rfl) (HE.out.fq (i := 8) rfl) (HE.out.fp (i := 1) rfl) (HE.out.fq (i := 1) rfl) HZ_a.out HZ_p.out (by omega)).mono ?_)
    rintro e W12 ⟨s12, A12, n12, c12, t12, B12, m12, d12, rfl, hp12, hq12, hb⟩
    replace HE := Lib.hid (HE.out.keep hb)
    clear hb
    clear cf49 cf50 cf51 cf52 cf53 cf54 cf55 cf56
    have Hhp12 := Lib.hid hp12
    clear hp12
    have Hhq12 := Lib.hid hq12
    clear hq12
    go_wp2_with (fail)
    go_must (refine (lright_yes _ HE.out.size Hhp12.out Hhq12.out HZ_y2.out.rt).mono ?_)
    rintro e W13 ⟨rfl, hb, _, _⟩
    replace HE := Lib.hid (HE.out.keep hb)
    replace Hhp12 := Lib.hid (Hhp12.out.keep hb)
    replace Hhq12 := Lib.hid (Hhq12.out.keep hb)
    clear hb
    have HR := Lib.hid (HE.out.fr (i := 4) rfl)
    have gr0 := HR.out.frozen 0
    have gc0 := HR.out.cell 0
    have gr1 := HR.out.frozen 1
    have gc1 := HR.out.cell 1
    have gr2 := HR.out.frozen 2
    have gc2 := HR.out.cell 2
    have gr3 := HR.out.frozen 3
    have gc3 := HR.out.cell 3
    have hlt2 := HR.out.lt
    replace HE := Lib.hid (Env.ptF (L1 := [(g_x, frV s9 A9 n9 c9 t9 B9 m9 d9, (np ((p0 * p1) * p2) ((q0 * q1) * q2)), (nq ((p0 * p1) * p2) ((q0 * q1) * q2))), (W8.heap.size, frV s7 A7 n7 c7 t7 B7 m7 d7, (np (p1 * p2) (q1 * q2)), (nq (p1 * p2) (q1 * q2))), (W6.heap.size, frV s5 A5 n5 c5 t5 B5 m5 d5, (np (p1 * p0) (q1 * q0)), (nq (p1 * p0) (q1 * q0))), (W4.heap.size, frV s3 A3 n3 c3 t3 B3 m3 d3, (np (p0 * p1) (q0 * q1)), (nq (p0 * p1) (q0 * q1)))]) HE.out HGE_y.out HR.out Hhp12.out Hhq12.out)
    clear Hhp12 Hhq12
    simp only [List.nil_append, List.cons_append] at HE
    go_wp2
    go_meet
    exact ⟨_, _, _, _, _, _, _, _, rfl, HE⟩
  obtain ⟨sNy, ANy, nNy, cNy, tNy, BNy, mNy, dNy, rfl, HEn⟩ := hcut
  replace HE := HEn
  clear HEn
  rename World => W14
  replace HE := Lib.hid (HE.out.sub (.cons_cons _ (.cons_cons _ (.cons_cons _ (.cons_cons _ (.cons_cons _ (.cons_cons _ (.cons_cons _ (.cons_cons _ (.cons_cons _ .slnil))))))))) (.refl _))
  rename_i K hK
  apply hK
  exact ffield_c w _ HE.out HS_b.out HZ_a.out HZ_b.out HZ_c.out HZ_z0.out HZ_z1.out HZ_ab.out HZ_m.out HZ_n.out HZ_p.out HZ_x2.out HZ_y2.out HGE_x.out HGE_y.out
end
end Go.Proofs.YtnifkianjpjahaaGreatDoor.Bg
