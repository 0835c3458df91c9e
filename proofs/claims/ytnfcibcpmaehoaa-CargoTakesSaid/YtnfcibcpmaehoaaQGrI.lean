/-
  The tests behind symMerge's search, over numbers.
-/
import Derived.Test.YtnfcibcpmaehoaaQCmI
namespace Go.Proofs.Ytnfcibcpmaehoaa
open Go.RowKit

def grdOps39I : Array Oper := #[
  { dst := some 178, op := Op.move (Operand.tmp 20), type := 3, pos := "zsortanyfunc.go:449", after := #[], guard := none },
  { dst := some 179, op := Op.move (Operand.tmp 2), type := 3, pos := "zsortanyfunc.go:449", after := #[], guard := none },
  { dst := some 180, op := Op.binOp BinOp.lss 3 (Operand.tmp 178) (Operand.tmp 179) 3, type := 4, pos := "zsortanyfunc.go:449", after := #[{ on := 0, ground := Ground.data }, { on := 1, ground := Ground.data }], guard := none },
  { dst := some 181, op := Op.move (Operand.tmp 180), type := 4, pos := "zsortanyfunc.go:449", after := #[{ on := 2, ground := Ground.data }], guard := none },
  { dst := some 182, op := Op.move (Operand.tmp 2), type := 3, pos := "zsortanyfunc.go:449", after := #[{ on := 3, ground := Ground.guard }], guard := some (3, true) },
  { dst := some 183, op := Op.move (Operand.tmp 24), type := 3, pos := "zsortanyfunc.go:449", after := #[{ on := 3, ground := Ground.guard }], guard := some (3, true) },
  { dst := some 184, op := Op.binOp BinOp.lss 3 (Operand.tmp 182) (Operand.tmp 183) 3, type := 4, pos := "zsortanyfunc.go:449", after := #[{ on := 4, ground := Ground.data }, { on := 5, ground := Ground.data }, { on := 3, ground := Ground.guard }], guard := some (3, true) },
  { dst := some 185, op := Op.pick (Operand.tmp 181) (Operand.tmp 184) (Operand.const (Value.bool false)), type := 4, pos := "zsortanyfunc.go:449", after := #[{ on := 3, ground := Ground.data }, { on := 6, ground := Ground.data }], guard := none }]
set_option maxRecDepth 100000 in
set_option maxHeartbeats 6400000 in
theorem grd39I {s m e : Nat} {q : Bool} (hq : (decide (s < m) && decide (m < e)) = q) {r0 r1 r3 r4 r5 r6 r7 r8 r9 r10 r11 r12 r13 r14 r15 r16 r17 r18 r19 r21 r22 r23 r25 r26 r27 r28 r29 r30 r31 r32 r33 r34 r35 r36 r37 r38 r39 r40 r41 r42 r43 r44 r45 r46 r47 r48 r49 r50 r51 r52 r53 r54 r55 r56 r57 r58 r59 r60 r61 r62 r63 r64 r65 r66 r67 r68 r69 r70 r71 r72 r73 r74 r75 r76 r77 r78 r79 r80 r81 r82 r83 r84 r85 r86 r87 r88 r89 r90 r91 r92 r93 r94 r95 r96 r97 r98 r99 r100 r101 r102 r103 r104 r105 r106 r107 r108 r109 r110 r111 r112 r113 r114 r115 r116 r117 r118 r119 r120 r121 r122 r123 r124 r125 r126 r127 r128 r129 r130 r131 r132 r133 r134 r135 r136 r137 r138 r139 r140 r141 r142 r143 r144 r145 r146 r147 r148 r149 r150 r151 r152 r153 r154 r155 r156 r157 r158 r159 r160 r161 r162 r163 r164 r165 r166 r167 r168 r169 r170 r171 r172 r173 r174 r175 r176 r177 r178 r179 r180 r181 r182 r183 r184 r185 r186 r187 r188 r189 r190 r191 r192 r193 r194 r195 r196 r197 r198 r199 r200 r201 r202 r203 r204 r205 r206 r207 r208 r209 r210 r211 r212 r213 r214 r215 r216 r217 r218 r219 : Value} {w : World} (Q : Exit → Act → World → Prop) (hQ : ∀ v178 v179 v180 v181 v182 v183 v184 : Value, Q .normal { tmps := #[r0, r1, .int .i64 (m : Int), r3, r4, r5, r6, r7, r8, r9, r10, r11, r12, r13, r14, r15, r16, r17, r18, r19, .int .i64 (s : Int), r21, r22, r23, .int .i64 (e : Int), r25, r26, r27, r28, r29, r30, r31, r32, r33, r34, r35, r36, r37, r38, r39, r40, r41, r42, r43, r44, r45, r46, r47, r48, r49, r50, r51, r52, r53, r54, r55, r56, r57, r58, r59, r60, r61, r62, r63, r64, r65, r66, r67, r68, r69, r70, r71, r72, r73, r74, r75, r76, r77, r78, r79, r80, r81, r82, r83, r84, r85, r86, r87, r88, r89, r90, r91, r92, r93, r94, r95, r96, r97, r98, r99, r100, r101, r102, r103, r104, r105, r106, r107, r108, r109, r110, r111, r112, r113, r114, r115, r116, r117, r118, r119, r120, r121, r122, r123, r124, r125, r126, r127, r128, r129, r130, r131, r132, r133, r134, r135, r136, r137, r138, r139, r140, r141, r142, r143, r144, r145, r146, r147, r148, r149, r150, r151, r152, r153, r154, r155, r156, r157, r158, r159, r160, r161, r162, r163, r164, r165, r166, r167, r168, r169, r170, r171, r172, r173, r174, r175, r176, r177, v178, v179, v180, v181, v182, v183, v184, .bool q, r186, r187, r188, r189, r190, r191, r192, r193, r194, r195, r196, r197, r198, r199, r200, r201, r202, r203, r204, r205, r206, r207, r208, r209, r210, r211, r212, r213, r214, r215, r216, r217, r218, r219], defers := [] } w) :
    (Code.region 39 grdOps39I false).wp Try.prog Q { tmps := #[r0, r1, .int .i64 (m : Int), r3, r4, r5, r6, r7, r8, r9, r10, r11, r12, r13, r14, r15, r16, r17, r18, r19, .int .i64 (s : Int), r21, r22, r23, .int .i64 (e : Int), r25, r26, r27, r28, r29, r30, r31, r32, r33, r34, r35, r36, r37, r38, r39, r40, r41, r42, r43, r44, r45, r46, r47, r48, r49, r50, r51, r52, r53, r54, r55, r56, r57, r58, r59, r60, r61, r62, r63, r64, r65, r66, r67, r68, r69, r70, r71, r72, r73, r74, r75, r76, r77, r78, r79, r80, r81, r82, r83, r84, r85, r86, r87, r88, r89, r90, r91, r92, r93, r94, r95, r96, r97, r98, r99, r100, r101, r102, r103, r104, r105, r106, r107, r108, r109, r110, r111, r112, r113, r114, r115, r116, r117, r118, r119, r120, r121, r122, r123, r124, r125, r126, r127, r128, r129, r130, r131, r132, r133, r134, r135, r136, r137, r138, r139, r140, r141, r142, r143, r144, r145, r146, r147, r148, r149, r150, r151, r152, r153, r154, r155, r156, r157, r158, r159, r160, r161, r162, r163, r164, r165, r166, r167, r168, r169, r170, r171, r172, r173, r174, r175, r176, r177, r178, r179, r180, r181, r182, r183, r184, r185, r186, r187, r188, r189, r190, r191, r192, r193, r194, r195, r196, r197, r198, r199, r200, r201, r202, r203, r204, r205, r206, r207, r208, r209, r210, r211, r212, r213, r214, r215, r216, r217, r218, r219], defers := [] } w := by
  by_cases c1 : s < m
  · have c1' : (s : Int) < (m : Int) := by omega
    by_cases c2 : m < e
    · have c2' : (m : Int) < (e : Int) := by omega
      obtain rfl : q = true := by rw [← hq, decide_eq_true c1, decide_eq_true c2, Bool.and_true]
      unfold grdOps39I
      go_wp2_with fail
      exact hQ _ _ _ _ _ _ _
    · have c2' : ¬ (m : Int) < (e : Int) := by omega
      obtain rfl : q = false := by rw [← hq, decide_eq_false c2, Bool.and_false]
      unfold grdOps39I
      go_wp2_with fail
      exact hQ _ _ _ _ _ _ _
  · have c1' : ¬ (s : Int) < (m : Int) := by omega
    obtain rfl : q = false := by rw [← hq, decide_eq_false c1, Bool.false_and]
    unfold grdOps39I
    go_wp2_with fail
    exact hQ _ _ _ _ _ _ _
def grdOps41I : Array Oper := #[
  { dst := some 192, op := Op.move (Operand.tmp 1), type := 3, pos := "zsortanyfunc.go:452", after := #[], guard := none },
  { dst := some 193, op := Op.move (Operand.tmp 20), type := 3, pos := "zsortanyfunc.go:452", after := #[], guard := none },
  { dst := some 194, op := Op.binOp BinOp.lss 3 (Operand.tmp 192) (Operand.tmp 193) 3, type := 4, pos := "zsortanyfunc.go:452", after := #[{ on := 0, ground := Ground.data }, { on := 1, ground := Ground.data }], guard := none },
  { dst := some 195, op := Op.move (Operand.tmp 194), type := 4, pos := "zsortanyfunc.go:452", after := #[{ on := 2, ground := Ground.data }], guard := none },
  { dst := some 196, op := Op.move (Operand.tmp 20), type := 3, pos := "zsortanyfunc.go:452", after := #[{ on := 3, ground := Ground.guard }], guard := some (3, true) },
  { dst := some 197, op := Op.move (Operand.tmp 18), type := 3, pos := "zsortanyfunc.go:452", after := #[{ on := 3, ground := Ground.guard }], guard := some (3, true) },
  { dst := some 198, op := Op.binOp BinOp.lss 3 (Operand.tmp 196) (Operand.tmp 197) 3, type := 4, pos := "zsortanyfunc.go:452", after := #[{ on := 4, ground := Ground.data }, { on := 5, ground := Ground.data }, { on := 3, ground := Ground.guard }], guard := some (3, true) },
  { dst := some 199, op := Op.pick (Operand.tmp 195) (Operand.tmp 198) (Operand.const (Value.bool false)), type := 4, pos := "zsortanyfunc.go:452", after := #[{ on := 3, ground := Ground.data }, { on := 6, ground := Ground.data }], guard := none }]
set_option maxRecDepth 100000 in
set_option maxHeartbeats 6400000 in
theorem grd41I {a s mid : Nat} {q : Bool} (hq : (decide (a < s) && decide (s < mid)) = q) {r0 r2 r3 r4 r5 r6 r7 r8 r9 r10 r11 r12 r13 r14 r15 r16 r17 r19 r21 r22 r23 r24 r25 r26 r27 r28 r29 r30 r31 r32 r33 r34 r35 r36 r37 r38 r39 r40 r41 r42 r43 r44 r45 r46 r47 r48 r49 r50 r51 r52 r53 r54 r55 r56 r57 r58 r59 r60 r61 r62 r63 r64 r65 r66 r67 r68 r69 r70 r71 r72 r73 r74 r75 r76 r77 r78 r79 r80 r81 r82 r83 r84 r85 r86 r87 r88 r89 r90 r91 r92 r93 r94 r95 r96 r97 r98 r99 r100 r101 r102 r103 r104 r105 r106 r107 r108 r109 r110 r111 r112 r113 r114 r115 r116 r117 r118 r119 r120 r121 r122 r123 r124 r125 r126 r127 r128 r129 r130 r131 r132 r133 r134 r135 r136 r137 r138 r139 r140 r141 r142 r143 r144 r145 r146 r147 r148 r149 r150 r151 r152 r153 r154 r155 r156 r157 r158 r159 r160 r161 r162 r163 r164 r165 r166 r167 r168 r169 r170 r171 r172 r173 r174 r175 r176 r177 r178 r179 r180 r181 r182 r183 r184 r185 r186 r187 r188 r189 r190 r191 r192 r193 r194 r195 r196 r197 r198 r199 r200 r201 r202 r203 r204 r205 r206 r207 r208 r209 r210 r211 r212 r213 r214 r215 r216 r217 r218 r219 : Value} {w : World} (Q : Exit → Act → World → Prop) (hQ : ∀ v192 v193 v194 v195 v196 v197 v198 : Value, Q .normal { tmps := #[r0, .int .i64 (a : Int), r2, r3, r4, r5, r6, r7, r8, r9, r10, r11, r12, r13, r14, r15, r16, r17, .int .i64 (mid : Int), r19, .int .i64 (s : Int), r21, r22, r23, r24, r25, r26, r27, r28, r29, r30, r31, r32, r33, r34, r35, r36, r37, r38, r39, r40, r41, r42, r43, r44, r45, r46, r47, r48, r49, r50, r51, r52, r53, r54, r55, r56, r57, r58, r59, r60, r61, r62, r63, r64, r65, r66, r67, r68, r69, r70, r71, r72, r73, r74, r75, r76, r77, r78, r79, r80, r81, r82, r83, r84, r85, r86, r87, r88, r89, r90, r91, r92, r93, r94, r95, r96, r97, r98, r99, r100, r101, r102, r103, r104, r105, r106, r107, r108, r109, r110, r111, r112, r113, r114, r115, r116, r117, r118, r119, r120, r121, r122, r123, r124, r125, r126, r127, r128, r129, r130, r131, r132, r133, r134, r135, r136, r137, r138, r139, r140, r141, r142, r143, r144, r145, r146, r147, r148, r149, r150, r151, r152, r153, r154, r155, r156, r157, r158, r159, r160, r161, r162, r163, r164, r165, r166, r167, r168, r169, r170, r171, r172, r173, r174, r175, r176, r177, r178, r179, r180, r181, r182, r183, r184, r185, r186, r187, r188, r189, r190, r191, v192, v193, v194, v195, v196, v197, v198, .bool q, r200, r201, r202, r203, r204, r205, r206, r207, r208, r209, r210, r211, r212, r213, r214, r215, r216, r217, r218, r219], defers := [] } w) :
    (Code.region 41 grdOps41I false).wp Try.prog Q { tmps := #[r0, .int .i64 (a : Int), r2, r3, r4, r5, r6, r7, r8, r9, r10, r11, r12, r13, r14, r15, r16, r17, .int .i64 (mid : Int), r19, .int .i64 (s : Int), r21, r22, r23, r24, r25, r26, r27, r28, r29, r30, r31, r32, r33, r34, r35, r36, r37, r38, r39, r40, r41, r42, r43, r44, r45, r46, r47, r48, r49, r50, r51, r52, r53, r54, r55, r56, r57, r58, r59, r60, r61, r62, r63, r64, r65, r66, r67, r68, r69, r70, r71, r72, r73, r74, r75, r76, r77, r78, r79, r80, r81, r82, r83, r84, r85, r86, r87, r88, r89, r90, r91, r92, r93, r94, r95, r96, r97, r98, r99, r100, r101, r102, r103, r104, r105, r106, r107, r108, r109, r110, r111, r112, r113, r114, r115, r116, r117, r118, r119, r120, r121, r122, r123, r124, r125, r126, r127, r128, r129, r130, r131, r132, r133, r134, r135, r136, r137, r138, r139, r140, r141, r142, r143, r144, r145, r146, r147, r148, r149, r150, r151, r152, r153, r154, r155, r156, r157, r158, r159, r160, r161, r162, r163, r164, r165, r166, r167, r168, r169, r170, r171, r172, r173, r174, r175, r176, r177, r178, r179, r180, r181, r182, r183, r184, r185, r186, r187, r188, r189, r190, r191, r192, r193, r194, r195, r196, r197, r198, r199, r200, r201, r202, r203, r204, r205, r206, r207, r208, r209, r210, r211, r212, r213, r214, r215, r216, r217, r218, r219], defers := [] } w := by
  by_cases c1 : a < s
  · have c1' : (a : Int) < (s : Int) := by omega
    by_cases c2 : s < mid
    · have c2' : (s : Int) < (mid : Int) := by omega
      obtain rfl : q = true := by rw [← hq, decide_eq_true c1, decide_eq_true c2, Bool.and_true]
      unfold grdOps41I
      go_wp2_with fail
      exact hQ _ _ _ _ _ _ _
    · have c2' : ¬ (s : Int) < (mid : Int) := by omega
      obtain rfl : q = false := by rw [← hq, decide_eq_false c2, Bool.and_false]
      unfold grdOps41I
      go_wp2_with fail
      exact hQ _ _ _ _ _ _ _
  · have c1' : ¬ (a : Int) < (s : Int) := by omega
    obtain rfl : q = false := by rw [← hq, decide_eq_false c1, Bool.false_and]
    unfold grdOps41I
    go_wp2_with fail
    exact hQ _ _ _ _ _ _ _
def grdOps43I : Array Oper := #[
  { dst := some 206, op := Op.move (Operand.tmp 18), type := 3, pos := "zsortanyfunc.go:455", after := #[], guard := none },
  { dst := some 207, op := Op.move (Operand.tmp 24), type := 3, pos := "zsortanyfunc.go:455", after := #[], guard := none },
  { dst := some 208, op := Op.binOp BinOp.lss 3 (Operand.tmp 206) (Operand.tmp 207) 3, type := 4, pos := "zsortanyfunc.go:455", after := #[{ on := 0, ground := Ground.data }, { on := 1, ground := Ground.data }], guard := none },
  { dst := some 209, op := Op.move (Operand.tmp 208), type := 4, pos := "zsortanyfunc.go:455", after := #[{ on := 2, ground := Ground.data }], guard := none },
  { dst := some 210, op := Op.move (Operand.tmp 24), type := 3, pos := "zsortanyfunc.go:455", after := #[{ on := 3, ground := Ground.guard }], guard := some (3, true) },
  { dst := some 211, op := Op.move (Operand.tmp 3), type := 3, pos := "zsortanyfunc.go:455", after := #[{ on := 3, ground := Ground.guard }], guard := some (3, true) },
  { dst := some 212, op := Op.binOp BinOp.lss 3 (Operand.tmp 210) (Operand.tmp 211) 3, type := 4, pos := "zsortanyfunc.go:455", after := #[{ on := 4, ground := Ground.data }, { on := 5, ground := Ground.data }, { on := 3, ground := Ground.guard }], guard := some (3, true) },
  { dst := some 213, op := Op.pick (Operand.tmp 209) (Operand.tmp 212) (Operand.const (Value.bool false)), type := 4, pos := "zsortanyfunc.go:455", after := #[{ on := 3, ground := Ground.data }, { on := 6, ground := Ground.data }], guard := none }]
set_option maxRecDepth 100000 in
set_option maxHeartbeats 6400000 in
theorem grd43I {mid e b : Nat} {q : Bool} (hq : (decide (mid < e) && decide (e < b)) = q) {r0 r1 r2 r4 r5 r6 r7 r8 r9 r10 r11 r12 r13 r14 r15 r16 r17 r19 r20 r21 r22 r23 r25 r26 r27 r28 r29 r30 r31 r32 r33 r34 r35 r36 r37 r38 r39 r40 r41 r42 r43 r44 r45 r46 r47 r48 r49 r50 r51 r52 r53 r54 r55 r56 r57 r58 r59 r60 r61 r62 r63 r64 r65 r66 r67 r68 r69 r70 r71 r72 r73 r74 r75 r76 r77 r78 r79 r80 r81 r82 r83 r84 r85 r86 r87 r88 r89 r90 r91 r92 r93 r94 r95 r96 r97 r98 r99 r100 r101 r102 r103 r104 r105 r106 r107 r108 r109 r110 r111 r112 r113 r114 r115 r116 r117 r118 r119 r120 r121 r122 r123 r124 r125 r126 r127 r128 r129 r130 r131 r132 r133 r134 r135 r136 r137 r138 r139 r140 r141 r142 r143 r144 r145 r146 r147 r148 r149 r150 r151 r152 r153 r154 r155 r156 r157 r158 r159 r160 r161 r162 r163 r164 r165 r166 r167 r168 r169 r170 r171 r172 r173 r174 r175 r176 r177 r178 r179 r180 r181 r182 r183 r184 r185 r186 r187 r188 r189 r190 r191 r192 r193 r194 r195 r196 r197 r198 r199 r200 r201 r202 r203 r204 r205 r206 r207 r208 r209 r210 r211 r212 r213 r214 r215 r216 r217 r218 r219 : Value} {w : World} (Q : Exit → Act → World → Prop) (hQ : ∀ v206 v207 v208 v209 v210 v211 v212 : Value, Q .normal { tmps := #[r0, r1, r2, .int .i64 (b : Int), r4, r5, r6, r7, r8, r9, r10, r11, r12, r13, r14, r15, r16, r17, .int .i64 (mid : Int), r19, r20, r21, r22, r23, .int .i64 (e : Int), r25, r26, r27, r28, r29, r30, r31, r32, r33, r34, r35, r36, r37, r38, r39, r40, r41, r42, r43, r44, r45, r46, r47, r48, r49, r50, r51, r52, r53, r54, r55, r56, r57, r58, r59, r60, r61, r62, r63, r64, r65, r66, r67, r68, r69, r70, r71, r72, r73, r74, r75, r76, r77, r78, r79, r80, r81, r82, r83, r84, r85, r86, r87, r88, r89, r90, r91, r92, r93, r94, r95, r96, r97, r98, r99, r100, r101, r102, r103, r104, r105, r106, r107, r108, r109, r110, r111, r112, r113, r114, r115, r116, r117, r118, r119, r120, r121, r122, r123, r124, r125, r126, r127, r128, r129, r130, r131, r132, r133, r134, r135, r136, r137, r138, r139, r140, r141, r142, r143, r144, r145, r146, r147, r148, r149, r150, r151, r152, r153, r154, r155, r156, r157, r158, r159, r160, r161, r162, r163, r164, r165, r166, r167, r168, r169, r170, r171, r172, r173, r174, r175, r176, r177, r178, r179, r180, r181, r182, r183, r184, r185, r186, r187, r188, r189, r190, r191, r192, r193, r194, r195, r196, r197, r198, r199, r200, r201, r202, r203, r204, r205, v206, v207, v208, v209, v210, v211, v212, .bool q, r214, r215, r216, r217, r218, r219], defers := [] } w) :
    (Code.region 43 grdOps43I false).wp Try.prog Q { tmps := #[r0, r1, r2, .int .i64 (b : Int), r4, r5, r6, r7, r8, r9, r10, r11, r12, r13, r14, r15, r16, r17, .int .i64 (mid : Int), r19, r20, r21, r22, r23, .int .i64 (e : Int), r25, r26, r27, r28, r29, r30, r31, r32, r33, r34, r35, r36, r37, r38, r39, r40, r41, r42, r43, r44, r45, r46, r47, r48, r49, r50, r51, r52, r53, r54, r55, r56, r57, r58, r59, r60, r61, r62, r63, r64, r65, r66, r67, r68, r69, r70, r71, r72, r73, r74, r75, r76, r77, r78, r79, r80, r81, r82, r83, r84, r85, r86, r87, r88, r89, r90, r91, r92, r93, r94, r95, r96, r97, r98, r99, r100, r101, r102, r103, r104, r105, r106, r107, r108, r109, r110, r111, r112, r113, r114, r115, r116, r117, r118, r119, r120, r121, r122, r123, r124, r125, r126, r127, r128, r129, r130, r131, r132, r133, r134, r135, r136, r137, r138, r139, r140, r141, r142, r143, r144, r145, r146, r147, r148, r149, r150, r151, r152, r153, r154, r155, r156, r157, r158, r159, r160, r161, r162, r163, r164, r165, r166, r167, r168, r169, r170, r171, r172, r173, r174, r175, r176, r177, r178, r179, r180, r181, r182, r183, r184, r185, r186, r187, r188, r189, r190, r191, r192, r193, r194, r195, r196, r197, r198, r199, r200, r201, r202, r203, r204, r205, r206, r207, r208, r209, r210, r211, r212, r213, r214, r215, r216, r217, r218, r219], defers := [] } w := by
  by_cases c1 : mid < e
  · have c1' : (mid : Int) < (e : Int) := by omega
    by_cases c2 : e < b
    · have c2' : (e : Int) < (b : Int) := by omega
      obtain rfl : q = true := by rw [← hq, decide_eq_true c1, decide_eq_true c2, Bool.and_true]
      unfold grdOps43I
      go_wp2_with fail
      exact hQ _ _ _ _ _ _ _
    · have c2' : ¬ (e : Int) < (b : Int) := by omega
      obtain rfl : q = false := by rw [← hq, decide_eq_false c2, Bool.and_false]
      unfold grdOps43I
      go_wp2_with fail
      exact hQ _ _ _ _ _ _ _
  · have c1' : ¬ (mid : Int) < (e : Int) := by omega
    obtain rfl : q = false := by rw [← hq, decide_eq_false c1, Bool.false_and]
    unfold grdOps43I
    go_wp2_with fail
    exact hQ _ _ _ _ _ _ _
end Go.Proofs.Ytnfcibcpmaehoaa
