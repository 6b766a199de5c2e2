/-
  8 texts of this proof in one, in build order: SShelf, Mem, Row, SLex, SLex2, SRd, SNext, SSkip.
-/
import Derived.Shelf.Strings.Builder1
import Derived.Shelf.Strings.Builder2
import Derived.Shelf.Strings.OnBuilder
import Derived.Shelf.Strings.SlTrimAscii
import Derived.Shelf.Small.Strs
import Derived.Shelf.LaysM
import Derived.Shelf.LaysC
import Derived.Shelf.Strconv.AtoiAll
import Derived.Shelf.Strconv.ErrVarAll
import Derived.Shelf.Strings.Search3
import Derived.Shelf.Strings.Shaped
import Derived.Shelf.Strings.Fields
import Derived.Test.YtifjaegfpdjikaaGreatDoorProg
import Derived.WalkKit
import Derived.WalkSpells
import Derived.Laws.AppendOwn
import Derived.Test.YtifjaegfpdjikaaGreatDoorRows
import Derived.WalkLawsBesides
import Derived.BigRegion
import Derived.Test.YtifjaegfpdjikaaGreatDoorJ04
set_option linter.unusedSimpArgs false
set_option linter.unusedVariables false
namespace Go.Proofs
open Go.Shelf
def Tryz.lays156_ren :Go.Shelf.Ren := ⟨fun | 156=>29 | 165=>57 | 166=>58 | 169=>59 | 240=>85 | 241=>86 | 276=>102 | 277=>103 | n=>n,fun | 31=>32 | 9=>9 | 3=>3 | 4=>4 | 0=>0 | 20=>20 | 72=>88 | 76=>92 | 70=>85 | 37=>86 | 75=>91 | 127=>115 | 164=>135 | 5=>5 | 80=>94 | n=>n,fun | n=>n⟩
theorem Tryz.lays156 :Go.Proofs.Lays.n156 Tryz.prog Tryz.lays156_ren := {
 mixed :=by kernel_rfl
 f156 :=Tryz.func29.trans (congrArg some (by kernel_rfl))
 f165 :=Tryz.func57.trans (congrArg some (by kernel_rfl))
 f166 :=Tryz.func58.trans (congrArg some (by kernel_rfl))
 f169 :=Tryz.func59.trans (congrArg some (by kernel_rfl))
 f240 :=Tryz.func85.trans (congrArg some (by kernel_rfl))
 f241 :=Tryz.func86.trans (congrArg some (by kernel_rfl))
 f276 :=Tryz.func102.trans (congrArg some (by kernel_rfl))
 f277 :=Tryz.func103.trans (congrArg some (by kernel_rfl))
 t0 :=Tryz.underlying0
 a0 :=Tryz.isAgg0
 z0 :=Tryz.sizeOf0
 v0 :=Tryz.zeroValue0
 t3 :=Tryz.underlying3
 a3 :=Tryz.isAgg3
 z3 :=Tryz.sizeOf3
 v3 :=Tryz.zeroValue3
 t4 :=Tryz.underlying4
 a4 :=Tryz.isAgg4
 z4 :=Tryz.sizeOf4
 v4 :=Tryz.zeroValue4
 t9 :=Tryz.underlying9
 a9 :=Tryz.isAgg9
 z9 :=Tryz.sizeOf9
 v9 :=Tryz.zeroValue9
 t20 :=Tryz.underlying20
 a20 :=Tryz.isAgg20
 z20 :=Tryz.sizeOf20
 v20 :=Tryz.zeroValue20
 t31 :=Tryz.underlying32
 a31 :=Tryz.isAgg32
 z31 :=Tryz.sizeOf32
 v31 :=Tryz.zeroValue32
 t37 :=Tryz.underlying86
 a37 :=Tryz.isAgg86
 z37 :=Tryz.sizeOf86
 v37 :=Tryz.zeroValue86
 t70 :=Tryz.underlying85
 a70 :=Tryz.isAgg85
 z70 :=Tryz.sizeOf85
 v70 :=Tryz.zeroValue85
 t72 :=Tryz.underlying88
 a72 :=Tryz.isAgg88
 z72 :=Tryz.sizeOf88
 v72 :=Tryz.zeroValue88
 t75 :=Tryz.underlying91
 a75 :=Tryz.isAgg91
 z75 :=Tryz.sizeOf91
 v75 :=Tryz.zeroValue91
 t76 :=Tryz.underlying92
 a76 :=Tryz.isAgg92
 z76 :=Tryz.sizeOf92
 v76 :=Tryz.zeroValue92
 t127 :=Tryz.underlying115
 a127 :=Tryz.isAgg115
 z127 :=Tryz.sizeOf115
 v127 :=Tryz.zeroValue115
 t164 :=Tryz.underlying135
 a164 :=Tryz.isAgg135
 z164 :=Tryz.sizeOf135
 v164 :=Tryz.zeroValue135}
def Tryz.lays161_ren :Go.Shelf.Ren := ⟨fun | 161=>44 | 231=>36 | 227=>38 | 233=>39 | 235=>41 | 228=>63 | 197=>64 | 151=>65 | 260=>88 | 152=>89 | 137=>26 | 119=>105 | 224=>92 | 225=>91 | 217=>54 | 266=>83 | n=>n,fun | 9=>9 | 4=>4 | 3=>3 | 5=>5 | 117=>76 | 116=>75 | 0=>0 | 124=>79 | 105=>97 | 21=>21 | 119=>82 | 46=>118 | 139=>140 | 138=>139 | n=>n,fun | 3=>3 | 4=>4 | n=>n⟩
theorem Tryz.lays161 :Go.Proofs.Lays.n161 Tryz.prog Tryz.lays161_ren := {
 mixed :=by kernel_rfl
 f119 :=Tryz.func105.trans (congrArg some (by kernel_rfl))
 f137 :=Tryz.func26.trans (congrArg some (by kernel_rfl))
 f151 :=Tryz.func65.trans (congrArg some (by kernel_rfl))
 f152 :=Tryz.func89.trans (congrArg some (by kernel_rfl))
 f161 :=Tryz.func44.trans (congrArg some (by kernel_rfl))
 f197 :=Tryz.func64.trans (congrArg some (by kernel_rfl))
 f217 :=Tryz.func54.trans (congrArg some (by kernel_rfl))
 f224 :=Tryz.func92.trans (congrArg some (by kernel_rfl))
 f225 :=Tryz.func91.trans (congrArg some (by kernel_rfl))
 f227 :=Tryz.func38.trans (congrArg some (by kernel_rfl))
 f228 :=Tryz.func63.trans (congrArg some (by kernel_rfl))
 f231 :=Tryz.func36.trans (congrArg some (by kernel_rfl))
 f233 :=Tryz.func39.trans (congrArg some (by kernel_rfl))
 f235 :=Tryz.func41.trans (congrArg some (by kernel_rfl))
 f260 :=Tryz.func88.trans (congrArg some (by kernel_rfl))
 f266 :=Tryz.func83.trans (congrArg some (by kernel_rfl))
 t0 :=Tryz.underlying0
 a0 :=Tryz.isAgg0
 z0 :=Tryz.sizeOf0
 v0 :=Tryz.zeroValue0
 t3 :=Tryz.underlying3
 a3 :=Tryz.isAgg3
 z3 :=Tryz.sizeOf3
 v3 :=Tryz.zeroValue3
 t4 :=Tryz.underlying4
 a4 :=Tryz.isAgg4
 z4 :=Tryz.sizeOf4
 v4 :=Tryz.zeroValue4
 t5 :=Tryz.underlying5
 a5 :=Tryz.isAgg5
 z5 :=Tryz.sizeOf5
 v5 :=Tryz.zeroValue5
 t9 :=Tryz.underlying9
 a9 :=Tryz.isAgg9
 z9 :=Tryz.sizeOf9
 v9 :=Tryz.zeroValue9
 t21 :=Tryz.underlying21
 a21 :=Tryz.isAgg21
 z21 :=Tryz.sizeOf21
 v21 :=Tryz.zeroValue21
 t46 :=Tryz.underlying118
 a46 :=Tryz.isAgg118
 z46 :=Tryz.sizeOf118
 v46 :=Tryz.zeroValue118
 t105 :=Tryz.underlying97
 a105 :=Tryz.isAgg97
 z105 :=Tryz.sizeOf97
 v105 :=Tryz.zeroValue97
 t116 :=Tryz.underlying75
 a116 :=Tryz.isAgg75
 z116 :=Tryz.sizeOf75
 t117 :=Tryz.underlying76
 a117 :=Tryz.isAgg76
 z117 :=Tryz.sizeOf76
 v117 :=Tryz.zeroValue76
 t119 :=Tryz.underlying82
 a119 :=Tryz.isAgg82
 z119 :=Tryz.sizeOf82
 t124 :=Tryz.underlying79
 a124 :=Tryz.isAgg79
 z124 :=Tryz.sizeOf79
 v124 :=Tryz.zeroValue79
 t138 :=Tryz.underlying139
 a138 :=Tryz.isAgg139
 z138 :=Tryz.sizeOf139
 v138 :=Tryz.zeroValue139
 t139 :=Tryz.underlying140
 a139 :=Tryz.isAgg140
 z139 :=Tryz.sizeOf140
 v139 :=Tryz.zeroValue140
 g3 :=by kernel_rfl
 g4 :=by kernel_rfl}
def Tryz.lays160_ren :Go.Shelf.Ren := ⟨fun | 160=>17 | 232=>37 | 231=>36 | 227=>38 | 234=>40 | 233=>39 | 236=>42 | 235=>41 | 228=>63 | 271=>66 | 151=>65 | 197=>64 | 120=>90 | 152=>89 | 260=>88 | 137=>26 | 119=>105 | 224=>92 | 225=>91 | 217=>54 | 266=>83 | n=>n,fun | 9=>9 | 4=>4 | 3=>3 | 5=>5 | 117=>76 | 116=>75 | 0=>0 | 124=>79 | 21=>21 | 105=>97 | 46=>118 | 119=>82 | 139=>140 | 138=>139 | n=>n,fun | 3=>3 | 4=>4 | n=>n⟩
theorem Tryz.lays160 :Go.Proofs.Lays.n160 Tryz.prog Tryz.lays160_ren := {
 mixed :=by kernel_rfl
 f119 :=Tryz.func105.trans (congrArg some (by kernel_rfl))
 f120 :=Tryz.func90.trans (congrArg some (by kernel_rfl))
 f137 :=Tryz.func26.trans (congrArg some (by kernel_rfl))
 f151 :=Tryz.func65.trans (congrArg some (by kernel_rfl))
 f152 :=Tryz.func89.trans (congrArg some (by kernel_rfl))
 f160 :=Tryz.func17.trans (congrArg some (by kernel_rfl))
 f197 :=Tryz.func64.trans (congrArg some (by kernel_rfl))
 f217 :=Tryz.func54.trans (congrArg some (by kernel_rfl))
 f224 :=Tryz.func92.trans (congrArg some (by kernel_rfl))
 f225 :=Tryz.func91.trans (congrArg some (by kernel_rfl))
 f227 :=Tryz.func38.trans (congrArg some (by kernel_rfl))
 f228 :=Tryz.func63.trans (congrArg some (by kernel_rfl))
 f231 :=Tryz.func36.trans (congrArg some (by kernel_rfl))
 f232 :=Tryz.func37.trans (congrArg some (by kernel_rfl))
 f233 :=Tryz.func39.trans (congrArg some (by kernel_rfl))
 f234 :=Tryz.func40.trans (congrArg some (by kernel_rfl))
 f235 :=Tryz.func41.trans (congrArg some (by kernel_rfl))
 f236 :=Tryz.func42.trans (congrArg some (by kernel_rfl))
 f260 :=Tryz.func88.trans (congrArg some (by kernel_rfl))
 f266 :=Tryz.func83.trans (congrArg some (by kernel_rfl))
 f271 :=Tryz.func66.trans (congrArg some (by kernel_rfl))
 t0 :=Tryz.underlying0
 a0 :=Tryz.isAgg0
 z0 :=Tryz.sizeOf0
 v0 :=Tryz.zeroValue0
 t3 :=Tryz.underlying3
 a3 :=Tryz.isAgg3
 z3 :=Tryz.sizeOf3
 v3 :=Tryz.zeroValue3
 t4 :=Tryz.underlying4
 a4 :=Tryz.isAgg4
 z4 :=Tryz.sizeOf4
 v4 :=Tryz.zeroValue4
 t5 :=Tryz.underlying5
 a5 :=Tryz.isAgg5
 z5 :=Tryz.sizeOf5
 v5 :=Tryz.zeroValue5
 t9 :=Tryz.underlying9
 a9 :=Tryz.isAgg9
 z9 :=Tryz.sizeOf9
 v9 :=Tryz.zeroValue9
 t21 :=Tryz.underlying21
 a21 :=Tryz.isAgg21
 z21 :=Tryz.sizeOf21
 v21 :=Tryz.zeroValue21
 t46 :=Tryz.underlying118
 a46 :=Tryz.isAgg118
 z46 :=Tryz.sizeOf118
 v46 :=Tryz.zeroValue118
 t105 :=Tryz.underlying97
 a105 :=Tryz.isAgg97
 z105 :=Tryz.sizeOf97
 v105 :=Tryz.zeroValue97
 t116 :=Tryz.underlying75
 a116 :=Tryz.isAgg75
 z116 :=Tryz.sizeOf75
 t117 :=Tryz.underlying76
 a117 :=Tryz.isAgg76
 z117 :=Tryz.sizeOf76
 v117 :=Tryz.zeroValue76
 t119 :=Tryz.underlying82
 a119 :=Tryz.isAgg82
 z119 :=Tryz.sizeOf82
 t124 :=Tryz.underlying79
 a124 :=Tryz.isAgg79
 z124 :=Tryz.sizeOf79
 v124 :=Tryz.zeroValue79
 t138 :=Tryz.underlying139
 a138 :=Tryz.isAgg139
 z138 :=Tryz.sizeOf139
 v138 :=Tryz.zeroValue139
 t139 :=Tryz.underlying140
 a139 :=Tryz.isAgg140
 z139 :=Tryz.sizeOf140
 v139 :=Tryz.zeroValue140
 g3 :=by kernel_rfl
 g4 :=by kernel_rfl}
def Tryz.lays137_ren :Go.Shelf.Ren := ⟨fun | 137=>26 | 217=>54 | 266=>83 | n=>n,fun | 9=>9 | 5=>5 | 3=>3 | n=>n,fun | n=>n⟩
theorem Tryz.lays137 :Go.Proofs.Lays.n137 Tryz.prog Tryz.lays137_ren := {
 mixed :=by kernel_rfl
 f137 :=Tryz.func26.trans (congrArg some (by kernel_rfl))
 f217 :=Tryz.func54.trans (congrArg some (by kernel_rfl))
 f266 :=Tryz.func83.trans (congrArg some (by kernel_rfl))
 t3 :=Tryz.underlying3
 a3 :=Tryz.isAgg3
 z3 :=Tryz.sizeOf3
 v3 :=Tryz.zeroValue3
 t5 :=Tryz.underlying5
 a5 :=Tryz.isAgg5
 z5 :=Tryz.sizeOf5
 v5 :=Tryz.zeroValue5
 t9 :=Tryz.underlying9
 a9 :=Tryz.isAgg9
 z9 :=Tryz.sizeOf9
 v9 :=Tryz.zeroValue9}
def Tryz.laysC172_ren :Go.Shelf.Ren := ⟨fun | 172=>99 | 244=>112 | 245=>113 | 247=>117 | 279=>118 | 280=>119 | 281=>120 | 282=>121 | 287=>125 | 316=>126 | 171=>128 | 205=>127 | 321=>134 | 322=>135 | 243=>136 | 246=>138 | 283=>140 | 284=>141 | 285=>142 | 286=>143 | 129=>146 | 317=>145 | 318=>147 | 319=>148 | 320=>149 | 337=>150 | 338=>151 | n=>n,fun | 9=>9 | 3=>3 | 75=>91 | 76=>92 | 4=>4 | 5=>5 | 167=>150 | 37=>86 | 0=>0 | 85=>151 | 2=>2 | 168=>153 | 53=>158 | 175=>159 | 46=>118 | 210=>163 | 127=>115 | 145=>172 | 143=>170 | 21=>21 | 171=>174 | 173=>177 | 212=>180 | 51=>112 | 20=>20 | 213=>181 | 232=>185 | 233=>186 | 80=>94 | n=>n,fun | 15=>5 | 16=>6 | 17=>7 | 18=>8 | 19=>9 | n=>n⟩
theorem Tryz.laysC172 :Go.Proofs.LaysC.n172 Tryz.prog Tryz.laysC172_ren := {
 mixed :=by kernel_rfl
 f129 :=Tryz.func146.trans (congrArg some (by kernel_rfl))
 f171 :=Tryz.func128.trans (congrArg some (by kernel_rfl))
 f172 :=Tryz.func99.trans (congrArg some (by kernel_rfl))
 f205 :=Tryz.func127.trans (congrArg some (by kernel_rfl))
 f243 :=Tryz.func136.trans (congrArg some (by kernel_rfl))
 f244 :=Tryz.func112.trans (congrArg some (by kernel_rfl))
 f245 :=Tryz.func113.trans (congrArg some (by kernel_rfl))
 f246 :=Tryz.func138.trans (congrArg some (by kernel_rfl))
 f247 :=Tryz.func117.trans (congrArg some (by kernel_rfl))
 f279 :=Tryz.func118.trans (congrArg some (by kernel_rfl))
 f280 :=Tryz.func119.trans (congrArg some (by kernel_rfl))
 f281 :=Tryz.func120.trans (congrArg some (by kernel_rfl))
 f282 :=Tryz.func121.trans (congrArg some (by kernel_rfl))
 f283 :=Tryz.func140.trans (congrArg some (by kernel_rfl))
 f284 :=Tryz.func141.trans (congrArg some (by kernel_rfl))
 f285 :=Tryz.func142.trans (congrArg some (by kernel_rfl))
 f286 :=Tryz.func143.trans (congrArg some (by kernel_rfl))
 f287 :=Tryz.func125.trans (congrArg some (by kernel_rfl))
 f316 :=Tryz.func126.trans (congrArg some (by kernel_rfl))
 f317 :=Tryz.func145.trans (congrArg some (by kernel_rfl))
 f318 :=Tryz.func147.trans (congrArg some (by kernel_rfl))
 f319 :=Tryz.func148.trans (congrArg some (by kernel_rfl))
 f320 :=Tryz.func149.trans (congrArg some (by kernel_rfl))
 f321 :=Tryz.func134.trans (congrArg some (by kernel_rfl))
 f322 :=Tryz.func135.trans (congrArg some (by kernel_rfl))
 f337 :=Tryz.func150.trans (congrArg some (by kernel_rfl))
 f338 :=Tryz.func151.trans (congrArg some (by kernel_rfl))
 t0 :=Tryz.underlying0
 a0 :=Tryz.isAgg0
 z0 :=Tryz.sizeOf0
 v0 :=Tryz.zeroValue0
 t2 :=Tryz.underlying2
 a2 :=Tryz.isAgg2
 z2 :=Tryz.sizeOf2
 v2 :=Tryz.zeroValue2
 t3 :=Tryz.underlying3
 a3 :=Tryz.isAgg3
 z3 :=Tryz.sizeOf3
 v3 :=Tryz.zeroValue3
 t4 :=Tryz.underlying4
 a4 :=Tryz.isAgg4
 z4 :=Tryz.sizeOf4
 v4 :=Tryz.zeroValue4
 t5 :=Tryz.underlying5
 a5 :=Tryz.isAgg5
 z5 :=Tryz.sizeOf5
 v5 :=Tryz.zeroValue5
 t9 :=Tryz.underlying9
 a9 :=Tryz.isAgg9
 z9 :=Tryz.sizeOf9
 v9 :=Tryz.zeroValue9
 t20 :=Tryz.underlying20
 a20 :=Tryz.isAgg20
 z20 :=Tryz.sizeOf20
 v20 :=Tryz.zeroValue20
 t21 :=Tryz.underlying21
 a21 :=Tryz.isAgg21
 z21 :=Tryz.sizeOf21
 v21 :=Tryz.zeroValue21
 t37 :=Tryz.underlying86
 a37 :=Tryz.isAgg86
 z37 :=Tryz.sizeOf86
 v37 :=Tryz.zeroValue86
 t46 :=Tryz.underlying118
 a46 :=Tryz.isAgg118
 z46 :=Tryz.sizeOf118
 v46 :=Tryz.zeroValue118
 t51 :=Tryz.underlying112
 a51 :=Tryz.isAgg112
 z51 :=Tryz.sizeOf112
 v51 :=Tryz.zeroValue112
 t53 :=Tryz.underlying158
 a53 :=Tryz.isAgg158
 z53 :=Tryz.sizeOf158
 v53 :=Tryz.zeroValue158
 t75 :=Tryz.underlying91
 a75 :=Tryz.isAgg91
 z75 :=Tryz.sizeOf91
 v75 :=Tryz.zeroValue91
 t76 :=Tryz.underlying92
 a76 :=Tryz.isAgg92
 z76 :=Tryz.sizeOf92
 v76 :=Tryz.zeroValue92
 t85 :=Tryz.underlying151
 a85 :=Tryz.isAgg151
 z85 :=Tryz.sizeOf151
 v85 :=Tryz.zeroValue151
 t127 :=Tryz.underlying115
 a127 :=Tryz.isAgg115
 z127 :=Tryz.sizeOf115
 v127 :=Tryz.zeroValue115
 t143 :=Tryz.underlying170
 a143 :=Tryz.isAgg170
 z143 :=Tryz.sizeOf170
 v143 :=Tryz.zeroValue170
 t145 :=Tryz.underlying172
 a145 :=Tryz.isAgg172
 z145 :=Tryz.sizeOf172
 v145 :=Tryz.zeroValue172
 t167 :=Tryz.underlying150
 a167 :=Tryz.isAgg150
 z167 :=Tryz.sizeOf150
 v167 :=Tryz.zeroValue150
 t168 :=Tryz.underlying153
 a168 :=Tryz.isAgg153
 z168 :=Tryz.sizeOf153
 v168 :=Tryz.zeroValue153
 t171 :=Tryz.underlying174
 a171 :=Tryz.isAgg174
 z171 :=Tryz.sizeOf174
 v171 :=Tryz.zeroValue174
 t173 :=Tryz.underlying177
 a173 :=Tryz.isAgg177
 z173 :=Tryz.sizeOf177
 v173 :=Tryz.zeroValue177
 t175 :=Tryz.underlying159
 a175 :=Tryz.isAgg159
 z175 :=Tryz.sizeOf159
 v175 :=Tryz.zeroValue159
 t210 :=Tryz.underlying163
 a210 :=Tryz.isAgg163
 z210 :=Tryz.sizeOf163
 v210 :=Tryz.zeroValue163
 t212 :=Tryz.underlying180
 a212 :=Tryz.isAgg180
 z212 :=Tryz.sizeOf180
 v212 :=Tryz.zeroValue180
 t213 :=Tryz.underlying181
 a213 :=Tryz.isAgg181
 z213 :=Tryz.sizeOf181
 t232 :=Tryz.underlying185
 a232 :=Tryz.isAgg185
 z232 :=Tryz.sizeOf185
 v232 :=Tryz.zeroValue185
 t233 :=Tryz.underlying186
 a233 :=Tryz.isAgg186
 z233 :=Tryz.sizeOf186
 v233 :=Tryz.zeroValue186
 g15 :=by kernel_rfl
 g16 :=by kernel_rfl
 g17 :=by kernel_rfl
 g18 :=by kernel_rfl
 g19 :=by kernel_rfl
 t80 :=Tryz.underlying94
 a80 :=Tryz.isAgg94
 z80 :=Tryz.sizeOf94
 v80 :=Tryz.zeroValue94
 i0 :=by kernel_rfl
 i2 :=by kernel_rfl
 i3 :=by kernel_rfl
 i4 :=by kernel_rfl
 i5 :=by kernel_rfl
 i9 :=by kernel_rfl
 i20 :=by kernel_rfl
 i21 :=by kernel_rfl
 i37 :=by kernel_rfl
 i46 :=by kernel_rfl
 i51 :=by kernel_rfl
 i53 :=by kernel_rfl
 i75 :=by kernel_rfl
 i76 :=by kernel_rfl
 i80 :=by kernel_rfl
 i85 :=by kernel_rfl
 i127 :=by kernel_rfl
 i143 :=by kernel_rfl
 i145 :=by kernel_rfl
 i167 :=by kernel_rfl
 i168 :=by kernel_rfl
 i171 :=by kernel_rfl
 i173 :=by kernel_rfl
 i175 :=by kernel_rfl
 i210 :=by kernel_rfl
 i212 :=by kernel_rfl
 i232 :=by kernel_rfl
 i233 :=by kernel_rfl
 m15 :=by kernel_rfl
 m16 :=by kernel_rfl
 m17 :=by kernel_rfl
 m18 :=by kernel_rfl
 m19 :=by kernel_rfl
 c0 :=by kernel_rfl
 c2 :=by kernel_rfl
 c3 :=by kernel_rfl
 c4 :=by kernel_rfl
 c5 :=by kernel_rfl
 c9 :=by kernel_rfl
 c20 :=by kernel_rfl
 c21 :=by kernel_rfl
 c37 :=by kernel_rfl
 c46 :=by kernel_rfl
 c51 :=by kernel_rfl
 c53 :=by kernel_rfl
 c75 :=by kernel_rfl
 c76 :=by kernel_rfl
 c80 :=by kernel_rfl
 c85 :=by kernel_rfl
 c127 :=by kernel_rfl
 c143 :=by kernel_rfl
 c145 :=by kernel_rfl
 c167 :=by kernel_rfl
 c168 :=by kernel_rfl
 c171 :=by kernel_rfl
 c173 :=by kernel_rfl
 c175 :=by kernel_rfl
 c210 :=by kernel_rfl
 c212 :=by kernel_rfl
 c213 :=by kernel_rfl
 c232 :=by kernel_rfl
 c233 :=by kernel_rfl}
def Tryz.lays144_ren :Go.Shelf.Ren := ⟨fun | 144=>18 | 143=>43 | 219=>67 | 217=>54 | 225=>91 | 224=>92 | 267=>93 | 266=>83 | 314=>106 | n=>n,fun | 9=>9 | 4=>4 | 3=>3 | 5=>5 | 46=>118 | 146=>141 | 51=>112 | n=>n,fun | 1=>2 | n=>n⟩
theorem Tryz.lays144 :Go.Proofs.Lays.n144 Tryz.prog Tryz.lays144_ren := {
 mixed :=by kernel_rfl
 f143 :=Tryz.func43.trans (congrArg some (by kernel_rfl))
 f144 :=Tryz.func18.trans (congrArg some (by kernel_rfl))
 f217 :=Tryz.func54.trans (congrArg some (by kernel_rfl))
 f219 :=Tryz.func67.trans (congrArg some (by kernel_rfl))
 f224 :=Tryz.func92.trans (congrArg some (by kernel_rfl))
 f225 :=Tryz.func91.trans (congrArg some (by kernel_rfl))
 f266 :=Tryz.func83.trans (congrArg some (by kernel_rfl))
 f267 :=Tryz.func93.trans (congrArg some (by kernel_rfl))
 f314 :=Tryz.func106.trans (congrArg some (by kernel_rfl))
 t3 :=Tryz.underlying3
 a3 :=Tryz.isAgg3
 z3 :=Tryz.sizeOf3
 v3 :=Tryz.zeroValue3
 t4 :=Tryz.underlying4
 a4 :=Tryz.isAgg4
 z4 :=Tryz.sizeOf4
 v4 :=Tryz.zeroValue4
 t5 :=Tryz.underlying5
 a5 :=Tryz.isAgg5
 z5 :=Tryz.sizeOf5
 v5 :=Tryz.zeroValue5
 t9 :=Tryz.underlying9
 a9 :=Tryz.isAgg9
 z9 :=Tryz.sizeOf9
 v9 :=Tryz.zeroValue9
 t46 :=Tryz.underlying118
 a46 :=Tryz.isAgg118
 z46 :=Tryz.sizeOf118
 v46 :=Tryz.zeroValue118
 t51 :=Tryz.underlying112
 a51 :=Tryz.isAgg112
 z51 :=Tryz.sizeOf112
 v51 :=Tryz.zeroValue112
 t146 :=Tryz.underlying141
 a146 :=Tryz.isAgg141
 z146 :=Tryz.sizeOf141
 v146 :=Tryz.zeroValue141
 g1 :=by kernel_rfl}
def Tryz.lays157_ren :Go.Shelf.Ren := ⟨fun | 157=>28 | 229=>55 | 199=>56 | 261=>84 | 311=>100 | 312=>101 | n=>n,fun | 9=>9 | 31=>32 | 3=>3 | 5=>5 | 4=>4 | 119=>82 | 0=>0 | 40=>84 | 152=>109 | 21=>21 | 154=>111 | 51=>112 | 141=>114 | 196=>127 | 193=>124 | 198=>130 | 49=>128 | 194=>125 | 201=>133 | 226=>147 | 46=>118 | 227=>148 | n=>n,fun | 0=>0 | 6=>1 | n=>n⟩
theorem Tryz.lays157 :Go.Proofs.Lays.n157 Tryz.prog Tryz.lays157_ren := {
 mixed :=by kernel_rfl
 f157 :=Tryz.func28.trans (congrArg some (by kernel_rfl))
 f199 :=Tryz.func56.trans (congrArg some (by kernel_rfl))
 f229 :=Tryz.func55.trans (congrArg some (by kernel_rfl))
 f261 :=Tryz.func84.trans (congrArg some (by kernel_rfl))
 f311 :=Tryz.func100.trans (congrArg some (by kernel_rfl))
 f312 :=Tryz.func101.trans (congrArg some (by kernel_rfl))
 t0 :=Tryz.underlying0
 a0 :=Tryz.isAgg0
 z0 :=Tryz.sizeOf0
 v0 :=Tryz.zeroValue0
 t3 :=Tryz.underlying3
 a3 :=Tryz.isAgg3
 z3 :=Tryz.sizeOf3
 v3 :=Tryz.zeroValue3
 t4 :=Tryz.underlying4
 a4 :=Tryz.isAgg4
 z4 :=Tryz.sizeOf4
 v4 :=Tryz.zeroValue4
 t5 :=Tryz.underlying5
 a5 :=Tryz.isAgg5
 z5 :=Tryz.sizeOf5
 v5 :=Tryz.zeroValue5
 t9 :=Tryz.underlying9
 a9 :=Tryz.isAgg9
 z9 :=Tryz.sizeOf9
 v9 :=Tryz.zeroValue9
 t21 :=Tryz.underlying21
 a21 :=Tryz.isAgg21
 z21 :=Tryz.sizeOf21
 v21 :=Tryz.zeroValue21
 t31 :=Tryz.underlying32
 a31 :=Tryz.isAgg32
 z31 :=Tryz.sizeOf32
 v31 :=Tryz.zeroValue32
 t40 :=Tryz.underlying84
 a40 :=Tryz.isAgg84
 z40 :=Tryz.sizeOf84
 v40 :=Tryz.zeroValue84
 t46 :=Tryz.underlying118
 a46 :=Tryz.isAgg118
 z46 :=Tryz.sizeOf118
 v46 :=Tryz.zeroValue118
 t49 :=Tryz.underlying128
 a49 :=Tryz.isAgg128
 z49 :=Tryz.sizeOf128
 v49 :=Tryz.zeroValue128
 t51 :=Tryz.underlying112
 a51 :=Tryz.isAgg112
 z51 :=Tryz.sizeOf112
 v51 :=Tryz.zeroValue112
 t119 :=Tryz.underlying82
 a119 :=Tryz.isAgg82
 z119 :=Tryz.sizeOf82
 t141 :=Tryz.underlying114
 a141 :=Tryz.isAgg114
 z141 :=Tryz.sizeOf114
 v141 :=Tryz.zeroValue114
 t152 :=Tryz.underlying109
 a152 :=Tryz.isAgg109
 z152 :=Tryz.sizeOf109
 v152 :=Tryz.zeroValue109
 t154 :=Tryz.underlying111
 a154 :=Tryz.isAgg111
 z154 :=Tryz.sizeOf111
 v154 :=Tryz.zeroValue111
 t193 :=Tryz.underlying124
 a193 :=Tryz.isAgg124
 z193 :=Tryz.sizeOf124
 v193 :=Tryz.zeroValue124
 t194 :=Tryz.underlying125
 a194 :=Tryz.isAgg125
 z194 :=Tryz.sizeOf125
 v194 :=Tryz.zeroValue125
 t196 :=Tryz.underlying127
 a196 :=Tryz.isAgg127
 z196 :=Tryz.sizeOf127
 v196 :=Tryz.zeroValue127
 t198 :=Tryz.underlying130
 a198 :=Tryz.isAgg130
 z198 :=Tryz.sizeOf130
 v198 :=Tryz.zeroValue130
 t201 :=Tryz.underlying133
 a201 :=Tryz.isAgg133
 z201 :=Tryz.sizeOf133
 v201 :=Tryz.zeroValue133
 t226 :=Tryz.underlying147
 a226 :=Tryz.isAgg147
 z226 :=Tryz.sizeOf147
 v226 :=Tryz.zeroValue147
 t227 :=Tryz.underlying148
 a227 :=Tryz.isAgg148
 z227 :=Tryz.sizeOf148
 v227 :=Tryz.zeroValue148
 g0 :=by kernel_rfl
 g6 :=by kernel_rfl}
end Go.Proofs

namespace Go.Proofs.YtifjaegfpdjikaaGreatDoor
open Go.RowKit
theorem Aa {w :World} {b :Nat} {arr :Array Value} {t :TypeId} {fr :Nat×Nat} (h :w.heap[b]? =some (.cells arr t fr)) {j :Nat} {u :Value} (hj :arr[j]? =some u) :w.cell? ⟨b,j,none⟩ =some u :=by
 simp [World.cell?,h,hj]
theorem Ad3 {w :World} {base :Nat} {e :TypeId} {size :Nat} {v :Value} {n :Nat} {xs :List Value} (hown :w.ownsRow base e size v n xs) {b :Nat} {arr :Array Value} {t :TypeId} {fr :Nat×Nat}
  (hb :w.heap[b]? =some (.cells arr t fr)) (hne :t≠e) :some b≠v.ownBlock :=by
 intro hh
 rcases hown.2 with ⟨h2,_⟩ | ⟨g,cap,cur,hv,_,hg,_⟩
 ·rw [h2] at hh;simp [Value.ownBlock] at hh
 ·rw [hv] at hh
  simp [Value.ownBlock] at hh
  subst hh
  rw [hg] at hb
  simp at hb
  exact hne hb.2.1.symm
theorem Ad (w :World) (o :Obj) : (w.alloc o).heap[w.heap.size]? =some o :=by
 show (w.heap.push o)[w.heap.size]? =_
 simp
theorem Ae {w :World} {b :Nat} {x :Obj} (h :w.heap[b]? =some x) (o :Obj) : (w.alloc o).heap[b]? =some x :=by
 have :=lt_of_block h
 rw [Below.heap_alloc _ _ _ this];exact h
theorem Kb {w w' :World} {row :Option Nat} (hg :w.grownBy w' row) {b :Nat} {x :Obj} (h :w.heap[b]? =some x) (hne :some b≠row) :w'.heap[b]? =some x :=by
 rw [hg.block b (lt_of_block h) hne];exact h
theorem B2 (w :World) (l :List Value) (t :TypeId) : ∀j u,l[j]? =some u→ (w.alloc (.cells l.toArray t)).cell? ((⟨w.heap.size,0,none⟩ :Addr).add j) =some u :=by
 intro j u hj
 rw [Addr.add_lit]
 simp only [Nat.zero_add]
 exact Aa (Ad w _) (by simpa using hj)
theorem Bn {w w' :World} {base :Nat} {e :TypeId} {size :Nat} {v :Value} {n :Nat} {xs :List Value} (hown :w.ownsRow base e size v n xs) (hb :base≤w.heap.size) (hg :w.grownBy w' v.ownBlock) :Below base w w' :=
 (Below.refl _ _).grown hg hb fun k hk=> (hown.lt k hk).1
theorem Ad9 {W w1 :World} (hb :Below W.heap.size W w1) : (∀b o,b<W.heap.size→w1.cell? ⟨b,o,none⟩ =W.cell? ⟨b,o,none⟩) ∧ (∀b o,b<W.heap.size→w1.frozen? ⟨b,o,none⟩ =W.frozen? ⟨b,o,none⟩) :=
 ⟨fun b o h=>hb.cell (p := ⟨b,o,none⟩) h,fun b o h=>hb.frozen (p := ⟨b,o,none⟩) h⟩
theorem Ip {w w' :World} {base :Nat} {e :TypeId} {size :Nat} {v :Value} {n :Nat} {xs :List Value} (h :w.ownsRow base e size v n xs) (hb :Below w.heap.size w w') :w'.ownsRow base e size v n xs :=by
 obtain ⟨h1,h2⟩ :=h
 refine ⟨h1, ?_⟩
 rcases h2 with h2 | ⟨g,cap,cur,hv,hg,hh,r⟩
 ·exact Or.inl h2
 ·exact Or.inr ⟨g,cap,cur,hv,hg,by rw [hb.block g (lt_of_block hh)];exact hh,r⟩
theorem Do {w a b :World} (h :Below w.heap.size w a) (k :Below a.heap.size a b) :Below w.heap.size w b :=h.trans (k.mono h.size)
end Go.Proofs.YtifjaegfpdjikaaGreatDoor

namespace Go.Proofs.YtifjaegfpdjikaaGreatDoor
open Go.RowKit
def Kc (size :Nat) (w :World) (sv :Value) (n :Nat) (cs :List Value) :Prop :=
 cs.length=n*size∧
 ((n=0∧ ∃ao cap,sv= .slice ao 0 cap∧ (ao=none→cap=0)) ∨
 (0<n∧ ∃b off cap,sv= .slice (some ⟨b,off,none⟩) n cap∧b<w.heap.size∧n≤cap∧cap≤maxLen∧ ∀j u,cs[j]? =some u→w.cell? ⟨b,off+j,none⟩ =some u))
theorem Kc.keep {size :Nat} {w w' :World} {B :Nat} {sv :Value} {n :Nat} {cs :List Value} (h :Kc size w sv n cs) (hb :Below B w w') (hB :w.heap.size≤B) :Kc size w' sv n cs :=by
 obtain ⟨h1,h2⟩ :=h
 refine ⟨h1, ?_⟩
 rcases h2 with h2 | ⟨h0,b,off,cap,rfl,hlt,hc,hm,hcell⟩
 ·exact .inl h2
 ·exact .inr ⟨h0,b,off,cap,rfl,Nat.lt_of_lt_of_le hlt (hb.size),hc,hm,fun j u hj=>by rw [hb.cell (p := ⟨b,off+j,none⟩) (Nat.lt_of_lt_of_le hlt hB)];exact hcell j u hj⟩
theorem Kc.below {size :Nat} {w w' :World} {sv :Value} {n :Nat} {cs :List Value} (h :Kc size w sv n cs) (hb :Below w.heap.size w w') :Kc size w' sv n cs :=h.keep hb (Nat.le_refl _)
theorem Kc.shape {size :Nat} {w :World} {sv :Value} {n :Nat} {cs :List Value} (h :Kc size w sv n cs) : ∃ao cap,sv= .slice ao n cap :=by
 rcases h.2 with ⟨rfl,ao,cap,rfl,_⟩ | ⟨_,b,off,cap,rfl,_⟩
 ·exact ⟨ao,cap,rfl⟩
 ·exact ⟨_,cap,rfl⟩
theorem Kc.nil (size :Nat) (w :World) :Kc size w (.slice none 0 0) 0 [] := ⟨by simp, .inl ⟨rfl,none,0,rfl,fun _=>rfl⟩⟩
theorem Kc.of_own {size :Nat} {w :World} {base :Nat} {e :TypeId} {v :Value} {n :Nat} {cs :List Value} (h :w.ownsRow base e size v n cs) :Kc size w v n cs :=by
 refine ⟨h.1, ?_⟩
 rcases h.2 with ⟨rfl,rfl⟩ | ⟨g,cap,cur,rfl,hg,hh,hn,hm,_⟩
 ·exact .inl ⟨rfl,none,0,rfl,fun _=>rfl⟩
 ·rcases Nat.eq_zero_or_pos n with rfl | h0
  ·exact .inl ⟨rfl,_,cap,rfl,fun h=>by cases h⟩
  ·refine .inr ⟨h0,g,0,cap,rfl,lt_of_block hh,hn,hm,fun j u hj=> ?_⟩
   have :=h.cells (g :=g) rfl j u hj
   rwa [Addr.add_lit] at this
def Ak (w :World) (sv :Value) (L :List ByteArray) :Prop :=Kc 1 w sv L.length (L.map .string)
theorem Ak.below {w w' :World} {sv :Value} {L :List ByteArray} (h :Ak w sv L) (hb :Below w.heap.size w w') :Ak w' sv L :=Kc.below h hb
theorem Ak.keep {w w' :World} {B :Nat} {sv :Value} {L :List ByteArray} (h :Ak w sv L) (hb :Below B w w') (hB :w.heap.size≤B) :Ak w' sv L :=Kc.keep h hb hB
theorem Ak.at {w :World} {sv :Value} {L :List ByteArray} (h :Ak w sv L) (h0 :0<L.length) : ∃b off cap,sv= .slice (some ⟨b,off,none⟩) L.length cap∧b<w.heap.size∧L.length≤cap∧cap≤maxLen∧ ∀i s,L[i]? =some s→w.cell? ⟨b,off+i,none⟩ =some (.string s) :=by
 rcases h.2 with ⟨h1,_⟩ | ⟨_,b,off,cap,rfl,hb,hc,hm,hcell⟩
 ·omega
 ·exact ⟨b,off,cap,rfl,hb,hc,hm,fun i s hi=>hcell i _ (by rw [List.getElem?_map,hi];rfl)⟩
end Go.Proofs.YtifjaegfpdjikaaGreatDoor

namespace Go.Proofs.YtifjaegfpdjikaaGreatDoor
open Go.RowKit
set_option maxHeartbeats 400000 in
theorem L0 (c :Int) (w :World) :Calls Tryz.prog 68 #[.int .u8 c] w fun e w'=>e= .returned (.bool (Km c)) ∧w'=w :=by
 by_cases h1 :48≤c<;>by_cases h2 :c≤57
 all_goals
  go_enter Tryz.func68,Tryz.ntmps68
  go_wp2
  all_goals
   go_ret
   exact ⟨Ci (by simp_all [Km]),rfl⟩
set_option maxHeartbeats 400000 in
theorem Vm (c :Int) (w :World) :Calls Tryz.prog 131 #[.int .u8 c] w fun e w'=>e= .returned (.bool (c==39)) ∧w'=w :=by
 go_enter Tryz.func131,Tryz.ntmps131
 go_wp2
 go_ret
 exact ⟨rfl,rfl⟩
set_option maxHeartbeats 1000000 in
theorem Vn (s :ByteArray) (w :World) (hs :s.size≤maxLen) :Calls Tryz.prog 14 #[.func (.func 68) #[] #[], .string s] w fun e w'=>e= .returned (.int .i64 (Ep A3 s.data.toList :Nat)) ∧w'=w :=by
 unfold maxLen at hs
 go_enter Tryz.func14,Tryz.ntmps14
 go_wp2
 go_loop [5] (fun i=> ∃k :Nat,k≤s.size∧i= .int .i64 k∧Hid ((s.data.toList.take k).all A3=true)) (fun i=>s.size - (intOf i).toNat)
 case atStart=>exact ⟨0,Nat.zero_le _,rfl,rfl⟩
 case round=>
  obtain ⟨k,hk,rfl,HG⟩ :=hrel
  by_cases hlt :k<s.size
  ·cases hc :A3 s[k]
   ·have hc' :Km (s[k].toNat :Int) =false :=by rw [Hy];exact hc
    have HE :Hid (Ep A3 s.data.toList=k) :=Iu HG.out (fun c h=>by rw [G3 hlt] at h;cases h;exact hc) (by simpa using hk)
    clear hc
    go_wp2_with (go_at_call 68;refine (L0 _ _).mono ?_;rintro e w' ⟨rfl,rfl⟩)
    go_ret
    exact ⟨Hb (by rw [HE.out]),rfl⟩
   ·have hc' :Km (s[k].toNat :Int) =true :=by rw [Hy];exact hc
    have HN :Hid ((s.data.toList.take (k+1)).all A3=true) :=Nh hlt HG.out hc
    clear hc
    go_wp2_with (go_at_call 68;refine (L0 _ _).mono ?_;rintro e w' ⟨rfl,rfl⟩)
    go_round
    case rel=>exact ⟨k+1,by omega,by go_num,HN⟩
    case measure=>simp [intOf];omega
  ·have HE :Hid (Ep A3 s.data.toList=k) :=Iu HG.out (fun c h=>by rw [List.getElem?_eq_none (by simp;omega)] at h;cases h) (by simpa using hk)
   go_wp2
   go_ret
   exact ⟨Hb (by rw [HE.out]),rfl⟩
end Go.Proofs.YtifjaegfpdjikaaGreatDoor

namespace Go.Proofs.YtifjaegfpdjikaaGreatDoor
open Go.RowKit
theorem Zj (s :ByteArray) : (s.extract 1 s.size).data.toList=s.data.toList.drop 1 :=by
 rw [Lib.extract_data];simp [List.take_of_length_le]
set_option maxHeartbeats 1000000 in
theorem Rx (s :ByteArray) (w :World) (hs :s.size≤maxLen) (h0 :1≤s.size) :Calls Tryz.prog 69 #[.string s] w fun e w'=>e= .returned (.int .i64 (if Lib.indexByte (s.data.toList.drop 1) 39<0 then 0 else Lib.indexByte (s.data.toList.drop 1) 39+2)) ∧w'=w :=by
 unfold maxLen at hs
 have ix :=Any.strings_IndexByte Tryz.lays137 (s.extract 1 s.size) 39 w
 rw [Zj,show (39 :Int).toNat.toUInt8=39 from rfl] at ix
 have hge :=Lib.indexByte_ge (s.data.toList.drop 1) 39
 have hle :Lib.indexByte (s.data.toList.drop 1) 39+1<s.size :=by
  rcases Int.lt_or_le (Lib.indexByte (s.data.toList.drop 1) 39) 0 with h | h
  ·omega
  ·obtain ⟨n,hn⟩ : ∃n :Nat,Lib.indexByte (s.data.toList.drop 1) 39=n := ⟨(Lib.indexByte (s.data.toList.drop 1) 39).toNat,by omega⟩
   have := (List.getElem?_eq_some_iff.1 (Lib.indexByte_some hn).1).1
   simp at this;omega
 generalize Lib.indexByte (s.data.toList.drop 1) 39=n at ix hge hle⊢
 by_cases hn :n<0
 ·rw [if_pos hn]
  go_enter Tryz.func69,Tryz.ntmps69
  go_wp2_with (go_at_call 26;go_must (go_fit ix;rintro e w' ⟨rfl,rfl⟩))
  go_ret
  exact ⟨rfl,rfl⟩
 ·rw [if_neg hn]
  go_enter Tryz.func69,Tryz.ntmps69
  go_wp2_with (go_at_call 26;go_must (go_fit ix;rintro e w' ⟨rfl,rfl⟩))
  go_ret
  exact ⟨Hb (by omega),rfl⟩
theorem Dt (s :ByteArray) (h0 :1≤s.size) :s.data.toList=s[0] ::s.data.toList.drop 1 :=by
 have h :0<s.data.toList.length :=by rw [Bi];omega
 conv=>lhs;rw [←List.drop_zero (l :=s.data.toList)]
 rw [List.drop_eq_getElem_cons h];rfl
set_option maxHeartbeats 2000000 in
theorem T9 (s :ByteArray) (w :World) (hs :s.size≤maxLen) :Calls Tryz.prog 45 #[.string s] w fun e w'=>e= .returned (.int .i64 (Bq s.data.toList :Nat)) ∧w'=w :=by
 have hs' :=hs
 unfold maxLen at hs'
 by_cases h0 :s.size=0
 ·have hl :s.data.toList= [] :=List.length_eq_zero_iff.1 (by rw [Bi];exact h0)
  have he : (s.toList.isEmpty) =true :=by rw [Lib.toList_data,hl];rfl
  have hw :Bq s.data.toList=0 :=by rw [hl];rfl
  rw [hw]
  clear hw
  go_enter Tryz.func45,Tryz.ntmps45
  go_wp2_with fail
  go_ret
  exact ⟨rfl,rfl⟩
 ·have h1 :1≤s.size :=by omega
  have hf :=Dt s h1
  have he : (s.toList.isEmpty) =false :=by rw [Lib.toList_data,hf];rfl
  have q0 : (0 :Int) < (s.size :Int) :=by omega
  have hw :Bq s.data.toList=if A6 s[0] then Ep A6 s.data.toList else if A3 s[0] then Ep A3 s.data.toList else if Bp s[0] then (if Lib.indexByte (s.data.toList.drop 1) 39<0 then 0 else (Lib.indexByte (s.data.toList.drop 1) 39).toNat+2) else if 0≤Lib.indexByte Mv s[0] then 1 else 0 :=by
   conv=>lhs;rw [hf]
   conv=>rhs;rw [hf]
   rfl
  have L :=fun W=>Mx (s[0].toNat :Int) W
  have D :=fun W=>L0 (s[0].toNat :Int) W
  simp only [If,Hy] at L D
  have RL :=fun W=>Lm s W hs
  have RD :=fun W=>Vn s W hs
  have Q :=fun W=>Rx s W hs h1
  have IX :=fun W=>Any.strings_IndexByte Tryz.lays137 ⟨#[40,41,44,59,46,61,60,43,45,42]⟩ (s[0].toNat :Int) W
  have ec : ((s[0].toNat :Int)).toNat.toUInt8=s[0] :=by simp
  simp only [ec] at IX
  have hq : ((s[0].toNat :Int) ==39) =Bp s[0] :=by
   unfold Bp
   rw [Bool.eq_iff_iff,beq_iff_eq,beq_iff_eq,←UInt8.toNat_inj]
   simp;omega
  generalize Bq s.data.toList=W at hw⊢
  have HW :Hid _ :=hw
  clear hw hf
  generalize Ep A6 s.data.toList=rl at RL HW
  generalize Ep A3 s.data.toList=rd at RD HW
  have hge :=Lib.indexByte_ge (s.data.toList.drop 1) 39
  generalize Lib.indexByte (s.data.toList.drop 1) 39=n at Q HW hge
  have hge2 : -1≤Lib.indexByte Mv s[0] :=Lib.indexByte_ge _ _
  have eix :Lib.indexByte Mv s[0] =Lib.indexByte (⟨#[40,41,44,59,46,61,60,43,45,42]⟩ :ByteArray).data.toList s[0] :=rfl
  rw [eix] at HW hge2
  generalize Lib.indexByte (⟨#[40,41,44,59,46,61,60,43,45,42]⟩ :ByteArray).data.toList s[0] =m at IX HW hge2
  clear eix
  generalize A6 s[0] =bl at L HW
  generalize A3 s[0] =bd at D HW
  generalize Bp s[0] =bq at hq HW
  cases bl
  ·cases bd
   ·cases bq
    ·by_cases hm :0≤m
     ·go_enter Tryz.func45,Tryz.ntmps45
      go_wp2_with (first
       | (go_at_call 15;go_must (go_fit (L _);rintro e w' ⟨rfl,rfl⟩))
       | (go_at_call 68;go_must (go_fit (D _);rintro e w' ⟨rfl,rfl⟩))
       | (go_at_call 26;go_must (go_fit (IX _);rintro e w' ⟨rfl,rfl⟩)))
      go_ret
      exact ⟨Hb (by rw [HW.out];simp [hm]),rfl⟩
     ·go_enter Tryz.func45,Tryz.ntmps45
      go_wp2_with (first
       | (go_at_call 15;go_must (go_fit (L _);rintro e w' ⟨rfl,rfl⟩))
       | (go_at_call 68;go_must (go_fit (D _);rintro e w' ⟨rfl,rfl⟩))
       | (go_at_call 26;go_must (go_fit (IX _);rintro e w' ⟨rfl,rfl⟩)))
      go_ret
      exact ⟨Hb (by rw [HW.out];simp only [Bool.false_eq_true,if_false];split<;>omega),rfl⟩
    ·go_enter Tryz.func45,Tryz.ntmps45
     go_wp2_with (first
      | (go_at_call 15;go_must (go_fit (L _);rintro e w' ⟨rfl,rfl⟩))
      | (go_at_call 68;go_must (go_fit (D _);rintro e w' ⟨rfl,rfl⟩))
      | (go_at_call 69;go_must (go_fit (Q _);rintro e w' ⟨rfl,rfl⟩)))
     all_goals
      go_ret
      exact ⟨Hb (by rw [HW.out];simp only [Bool.false_eq_true,if_false,if_true];split<;>omega),rfl⟩
   ·go_enter Tryz.func45,Tryz.ntmps45
    go_wp2_with (first
     | (go_at_call 15;go_must (go_fit (L _);rintro e w' ⟨rfl,rfl⟩))
     | (go_at_call 68;go_must (go_fit (D _);rintro e w' ⟨rfl,rfl⟩))
     | (go_at_call 14;go_must (go_fit (RD _);rintro e w' ⟨rfl,rfl⟩)))
    go_ret
    exact ⟨Hb (by rw [HW.out];simp),rfl⟩
  ·go_enter Tryz.func45,Tryz.ntmps45
   go_wp2_with (first
    | (go_at_call 15;go_must (go_fit (L _);rintro e w' ⟨rfl,rfl⟩))
    | (go_at_call 14;go_must (go_fit (RL _);rintro e w' ⟨rfl,rfl⟩)))
   go_ret
   exact ⟨Hb (by rw [HW.out];simp),rfl⟩
end Go.Proofs.YtifjaegfpdjikaaGreatDoor

namespace Go.Proofs.YtifjaegfpdjikaaGreatDoor
open Go.RowKit
structure But (a :Nat) (w w' :World) :Prop where
 os :w'.os=w.os
 tape :w'.tape=w.tape
 output :w'.output=w.output
 size :w.heap.size≤w'.heap.size
 block : ∀k,k<w.heap.size→k≠a→w'.heap[k]? =w.heap[k]?
theorem But.refl (a :Nat) (w :World) :But a w w := ⟨rfl,rfl,rfl,Nat.le_refl _,fun _ _ _=>rfl⟩
theorem But.trans {a :Nat} {u v w :World} (h :But a u v) (k :But a v w) :But a u w :=
 ⟨k.os.trans h.os,k.tape.trans h.tape,k.output.trans h.output,Nat.le_trans h.size k.size,fun i hi hn=> (k.block i (Nat.lt_of_lt_of_le hi h.size) hn).trans (h.block i hi hn)⟩
theorem But.of_below {a :Nat} {w w' :World} (h :Below w.heap.size w w') :But a w w' := ⟨h.os,h.tape,h.output,h.size,fun k hk _=>h.block k hk⟩
theorem But.set {a :Nat} {w w' :World} (h :But a w w') (o :Nat) (u :Value) :But a w (w'.setCell ⟨a,o,none⟩ u) :=
 h.trans ⟨rfl,rfl,rfl,by simp [World.setCell],fun k _ hn=>Below.heap_setCell _ _ _ _ hn⟩
theorem But.drew {a :Nat} {w w' :World} (h :But a w w') :But a w w'.drew := ⟨h.os,h.tape,h.output,h.size,h.block⟩
theorem But.alloc {a :Nat} {w w' :World} (h :But a w w') (o :Obj) :But a w (w'.alloc o) :=h.trans (.of_below ((Below.refl _ _).alloc (Nat.le_refl _) o))
theorem But.below {a B :Nat} {w w' :World} (h :But a w w') (hB :B≤a) (ha :B≤w.heap.size) :Below B w w' := ⟨h.os,h.tape,h.output,h.size,fun k hk=>h.block k (by omega) (by omega)⟩
def RdC (w :World) (a :Nat) (word rest :Wd) (d :Int) (wrong :Bool) :Prop :=
 w.heap[a]? =some (.cells #[.string word, .string rest, .int .i64 d, .bool wrong] 58)
theorem RdC.lt {w :World} {a :Nat} {word rest :Wd} {d :Int} {wrong :Bool} (h :RdC w a word rest d wrong) :a<w.heap.size :=lt_of_block h
theorem RdC.cells {w :World} {a :Nat} {word rest :Wd} {d :Int} {wrong :Bool} (h :RdC w a word rest d wrong) :
  w.cell? ⟨a,0,none⟩ =some (.string word) ∧w.cell? ⟨a,1,none⟩ =some (.string rest) ∧w.cell? ⟨a,2,none⟩ =some (.int .i64 d) ∧w.cell? ⟨a,3,none⟩ =some (.bool wrong) :=
 ⟨Aa h rfl,Aa h rfl,Aa h rfl,Aa h rfl⟩
theorem RdC.frozen {w :World} {a :Nat} {word rest :Wd} {d :Int} {wrong :Bool} (h :RdC w a word rest d wrong) (o :Nat) :w.frozen? ⟨a,o,none⟩ =false :=by
 simp [World.frozen?,show w.heap[a]? =_ from h]
theorem RdC.below {w w' :World} {a :Nat} {word rest :Wd} {d :Int} {wrong :Bool} (h :RdC w a word rest d wrong) (hb :Below w.heap.size w w') :RdC w' a word rest d wrong := (hb.block a h.lt).trans h
theorem RdC.set0 {w :World} {a :Nat} {word rest :Wd} {d :Int} {wrong :Bool} (h :RdC w a word rest d wrong) (x :Wd) :RdC (w.setCell ⟨a,0,none⟩ (.string x)) a x rest d wrong :=by
 unfold RdC at h⊢
 simp only [World.setCell,Array.getElem?_modify,if_true,h];rfl
theorem RdC.set1 {w :World} {a :Nat} {word rest :Wd} {d :Int} {wrong :Bool} (h :RdC w a word rest d wrong) (x :Wd) :RdC (w.setCell ⟨a,1,none⟩ (.string x)) a word x d wrong :=by
 unfold RdC at h⊢
 simp only [World.setCell,Array.getElem?_modify,if_true,h];rfl
theorem RdC.set2 {w :World} {a :Nat} {word rest :Wd} {d :Int} {wrong :Bool} (h :RdC w a word rest d wrong) (x :Int) :RdC (w.setCell ⟨a,2,none⟩ (.int .i64 x)) a word rest x wrong :=by
 unfold RdC at h⊢
 simp only [World.setCell,Array.getElem?_modify,if_true,h];rfl
theorem RdC.set3 {w :World} {a :Nat} {word rest :Wd} {d :Int} {wrong :Bool} (h :RdC w a word rest d wrong) (x :Bool) :RdC (w.setCell ⟨a,3,none⟩ (.bool x)) a word rest d x :=by
 unfold RdC at h⊢
 simp only [World.setCell,Array.getElem?_modify,if_true,h];rfl
theorem RdC.drew {w :World} {a :Nat} {word rest :Wd} {d :Int} {wrong :Bool} (h :RdC w a word rest d wrong) :RdC w.drew a word rest d wrong :=h
inductive Reads :Wd→Wd→Bool→St→Prop
 | wrong :Reads noW noW true none
 | over :Reads noW noW false (some [])
 | word {x r :Wd} :IsTok x→x.size≤1500→r.size≤1500→Reads x r false (some (x ::By r.data.toList))
def Rd (w :World) (a :Nat) (s :St) (d :Int) :Prop := ∃x r b,RdC w a x r d b∧Reads x r b s
theorem Rd.below {w w' :World} {a :Nat} {s :St} {d :Int} (h :Rd w a s d) (hb :Below w.heap.size w w') :Rd w' a s d :=by
 obtain ⟨x,r,b,h1,h2⟩ :=h
 exact ⟨x,r,b,h1.below hb,h2⟩
theorem Rd.lt {w :World} {a :Nat} {s :St} {d :Int} (h :Rd w a s d) :a<w.heap.size :=by
 obtain ⟨x,r,b,h1,h2⟩ :=h
 exact h1.lt
set_option maxHeartbeats 1000000 in
theorem Ln (a :Nat) (w :World) (x r :Wd) (d :Int) (b :Bool) (h :RdC w a x r d b) :
  Calls Tryz.prog 46 #[.pointer (some ⟨a,0,none⟩)] w fun e w'=>e= .returned (.tuple #[]) ∧RdC w' a noW noW d true∧But a w w' :=by
 obtain ⟨c0,c1,c2,c3⟩ :=h.cells
 have f0 :=h.frozen 0
 have f1 :=h.frozen 1
 have f3 :=h.frozen 3
 go_enter Tryz.func46,Tryz.ntmps46
 go_wp2
 go_end0
 exact ⟨rfl,((h.set0 _).set1 _).set3 _,(((But.refl a w).set _ _).set _ _).set _ _⟩
theorem Ua (s :ByteArray) (w :World) :Calls Tryz.prog 44 #[.string s, .string ⟨#[32,10]⟩] w fun e w'=>e= .returned (.string (str (s.data.toList.dropWhile B9))) ∧Below w.heap.size w w' :=
 Any.strings_TrimLeft_laid Tryz.lays161 (by kernel_rfl) s ⟨#[32,10]⟩ w (by decide) (ascii_of_all (by decide))
end Go.Proofs.YtifjaegfpdjikaaGreatDoor

namespace Go.Proofs.YtifjaegfpdjikaaGreatDoor
open Go.RowKit
theorem Aar (m :List UInt8) (n :Nat) : (str m).extract 0 n=str (m.take n) :=by
 have : ((str m).extract 0 n).data.toList=m.take n :=by
  rw [Lib.extract_data]
  simp [Fx]
 rw [←Mr ((str m).extract 0 n),this]
theorem Aas (m :List UInt8) (n :Nat) : (str m).extract n (str m).size=str (m.drop n) :=by
 have : ((str m).extract n (str m).size).data.toList=m.drop n :=by
  rw [Lib.extract_data,It,Fx,List.take_of_length_le (by simp)]
 rw [←Mr ((str m).extract n (str m).size),this]
theorem Ad1 :str [] =noW :=rfl
theorem Adu :By (noW :Wd).data.toList= [] :=rfl
set_option maxHeartbeats 2000000 in
theorem Lo (a :Nat) (w :World) (x r :Wd) (d :Int) (h :RdC w a x r d false) (hr :r.size≤1500) :
  Calls Tryz.prog 21 #[.pointer (some ⟨a,0,none⟩)] w fun e w'=>e= .returned (.tuple #[]) ∧Rd w' a (adv (By r.data.toList)) d∧But a w w' :=by
 obtain ⟨c0,c1,c2,c3⟩ :=h.cells
 have TL :=Ua r w
 have ht :=Ju r.data.toList
 have hlen : (r.data.toList.dropWhile B9).length≤1500 :=by
  have :=Hx B9 r.data.toList
  rw [Bi] at this;omega
 generalize By r.data.toList=T at ht⊢
 generalize r.data.toList.dropWhile B9=m at TL ht hlen
 have HT :Hid _ :=ht
 clear ht
 have hsz : (str m).size≤1500 :=by rw [It];exact hlen
 have WS :=fun W=>T9 (str m) W (by unfold maxLen;omega)
 rw [Fx] at WS
 have hle :=Pt m
 have FA :=fun W y z (hW :RdC W a y z d false) =>Ln a W y z d false hW
 by_cases hbad :Bq m=0∧m≠ []
 ·obtain ⟨hw0,hm⟩ :=hbad
  have he : (str m).toList.isEmpty=false :=by rw [Lib.toList_data,Fx];cases m with | nil=>exact absurd rfl hm | cons c m=>rfl
  have HF :Hid (T= [noW]) :=by have :=HT.out;rw [if_neg hm,if_pos hw0] at this;exact this
  rw [hw0] at WS
  clear HT hm hw0 hle
  go_enter Tryz.func21,Tryz.ntmps21
  go_wp2_with (first
   | (go_at_call 44;go_must (go_fit TL;rintro e w1 ⟨rfl,hb1⟩;have FA1 :=FA w1 _ _ (h.below hb1)))
   | (go_at_call 45;go_must (go_fit (WS _);rintro e w' ⟨rfl,rfl⟩))
   | (go_at_call 46;go_must (go_fit FA1;rintro e w2 ⟨rfl,hr2,hb2⟩)))
  refine bodyPost_ret (v := .tuple #[]) (by simp [results,Tryz.results21,go_sem]) rfl ⟨rfl, ?_,(But.of_below hb1).trans hb2⟩
  rw [HF.out]
  exact ⟨_,_,_,hr2, .wrong⟩
 ·have HF :Hid (T= [] ∧m= [] ∧Bq m=0∨0<Bq m∧T=str (m.take (Bq m)) ::By (m.drop (Bq m))) :=by
   have :=HT.out
   by_cases hm :m= []
   ·rw [if_pos hm] at this
    exact .inl ⟨this,hm,by rw [hm];rfl⟩
   ·have h0 :Bq m≠0 :=fun e=>hbad ⟨e,hm⟩
    rw [if_neg hm,if_neg h0] at this
    exact .inr ⟨by omega,this⟩
  have hcase : (Bq m=0∧ (str m).toList.isEmpty=true) ∨0<Bq m :=by
   rcases HF.out with ⟨_,h1,h2⟩ | ⟨h1,_⟩
   ·exact .inl ⟨h2,by rw [Lib.toList_data,Fx,h1];rfl⟩
   ·exact .inr h1
  have hit :0<Bq m→IsTok (str (m.take (Bq m))) :=fun h=>Qt h
  have e1 :=Aar m (Bq m)
  have e2 :=Aas m (Bq m)
  have ht : (str (m.take (Bq m))).size≤1500 :=by rw [It,List.length_take];omega
  have hd : (str (m.drop (Bq m))).size≤1500 :=by rw [It,List.length_drop];omega
  have ed : (str (m.drop (Bq m))).data.toList=m.drop (Bq m) :=Fx _
  rw [←It m] at hle
  generalize Bq m=n at WS hle HF hcase hit e1 e2 ht hd ed
  have HF2 :Hid (Reads ((str m).extract 0 n) ((str m).extract n (str m).size) false (adv T)) :=by
   show Reads _ _ _ _
   rw [e1,e2]
   rcases HF.out with ⟨rfl,rfl,rfl⟩ | ⟨h0,rfl⟩
   ·exact .over
   ·rw [B0 (hit h0).pos]
    have :=Reads.word (r :=str (m.drop n)) (hit h0) ht hd
    rw [ed] at this
    exact this
  clear HF HT e1 e2 ht hd ed hit hbad
  generalize str m=sm at TL WS hle hsz hcase HF2
  have i0 : (0 :Int) ≤ (n :Int) :=by omega
  have i1 : (n :Int) ≤ (sm.size :Int) :=by omega
  have i2 : (0 :Int) ≤ (sm.size :Int) :=by omega
  rcases hcase with ⟨hn',he⟩ | hn'
  ·have hn0 : ((n :Int) ==0) =true :=beq_iff_eq.2 (by omega)
   clear hn'
   go_enter Tryz.func21,Tryz.ntmps21
   go_wp2_with (first
    | (go_at_call 44;go_must (go_fit TL;rintro e w1 ⟨rfl,hb1⟩))
    | (go_at_call 45;go_must (go_fit (WS _);rintro e w' ⟨rfl,rfl⟩)))
   have hR :=h.below hb1
   obtain ⟨d0,d1,d2,d3⟩ :=hR.cells
   have f0 :=hR.frozen 0
   have f1 :=hR.frozen 1
   go_region
   go_end0
   exact ⟨rfl,⟨_,_,_,((hR.set0 _).set1 _).drew,HF2.out⟩,(((But.of_below hb1).set _ _).set _ _).drew⟩
  ·have hn0 : ((n :Int) ==0) =false :=beq_eq_false_iff_ne.2 (by omega)
   go_enter Tryz.func21,Tryz.ntmps21
   go_wp2_with (first
    | (go_at_call 44;go_must (go_fit TL;rintro e w1 ⟨rfl,hb1⟩))
    | (go_at_call 45;go_must (go_fit (WS _);rintro e w' ⟨rfl,rfl⟩)))
   have hR :=h.below hb1
   obtain ⟨d0,d1,d2,d3⟩ :=hR.cells
   have f0 :=hR.frozen 0
   have f1 :=hR.frozen 1
   go_region
   go_end0
   exact ⟨rfl,⟨_,_,_,((hR.set0 _).set1 _).drew,HF2.out⟩,(((But.of_below hb1).set _ _).set _ _).drew⟩
set_option maxHeartbeats 1000000 in
theorem S6 (s :ByteArray) (w :World) (hs :s.size≤1500) :
  Calls Tryz.prog 10 #[.string s] w fun e w'=> ∃a,e= .returned (.pointer (some ⟨a,0,none⟩)) ∧w.heap.size≤a∧Rd w' a (adv (By s.data.toList)) 0∧Below w.heap.size w w' :=by
 have hR :RdC (w.alloc (.cells #[.string noW, .string s, .int .i64 0, .bool false] 58)) w.heap.size noW s 0 false :=Ad w _
 have NX :=Lo w.heap.size _ noW s 0 hR hs
 have hb0 :Below w.heap.size w (w.alloc (.cells #[.string noW, .string s, .int .i64 0, .bool false] 58)) := (Below.refl _ _).alloc (Nat.le_refl _) _
 go_enter Tryz.func10,Tryz.ntmps10
 go_wp2_with (go_at_call 21;go_must (go_fit NX;rintro e w1 ⟨rfl,hr1,hb1⟩))
 go_ret
 exact ⟨_,rfl,Nat.le_refl _,hr1,hb0.trans (hb1.below (Nat.le_refl _) (by simp))⟩
end Go.Proofs.YtifjaegfpdjikaaGreatDoor

namespace Go.Proofs.YtifjaegfpdjikaaGreatDoor
open Go.RowKit
theorem Reads.empty {x r :Wd} {b :Bool} {s :St} (h :Reads x r b s) (hx :x.size=0) :s=none∧b=true∨s=some [] ∧b=false :=by
 cases h with
 | wrong=>exact .inl ⟨rfl,rfl⟩
 | over=>exact .inr ⟨rfl,rfl⟩
 | word h1 _ _=>have :=h1.pos;omega
theorem Reads.at {x r :Wd} {b :Bool} {s :St} (h :Reads x r b s) (hx :0<x.size) :s=some (x ::By r.data.toList) ∧b=false∧IsTok x∧r.size≤1500 :=by
 cases h with
 | wrong=>cases hx
 | over=>cases hx
 | word h1 _ h2=>exact ⟨rfl,rfl,h1,h2⟩
theorem Xl {x r :Wd} {b :Bool} {s :St} {k :Wd} (h :Reads x r b s) (hk :0<k.size) : (x≠k∧Ag k s= (false,s)) ∨ (x=k∧b=false∧r.size≤1500∧Ag k s= (true,adv (By r.data.toList))) :=by
 cases h with
 | wrong=>exact .inl ⟨by rintro rfl;exact absurd hk (by decide),rfl⟩
 | over=>exact .inl ⟨by rintro rfl;exact absurd hk (by decide),rfl⟩
 | word h1 _ h2=>
  by_cases e :x=k
  ·subst e;exact .inr ⟨rfl,rfl,h2,Cn⟩
  ·exact .inl ⟨e,Dx e⟩
theorem Jv (x k :Wd) : (x.toList==k.toList) =decide (x=k) :=by rw [Lib.toList_data k,An]
theorem Hz {x :Wd} (h :x.size=0) :x=noW :=by
 cases x with
 | mk d=>
  have :d.size=0 :=h
  rw [Array.size_eq_zero_iff] at this
  rw [this]
set_option maxHeartbeats 1000000 in
theorem Ix (a :Nat) (k :Wd) (s :St) (d :Int) (w :World) (h :Rd w a s d) (hk :0<k.size) :
  Calls Tryz.prog 47 #[.pointer (some ⟨a,0,none⟩), .string k] w fun e w'=>e= .returned (.bool (Ag k s).1) ∧Rd w' a (Ag k s).2 d∧But a w w' :=by
 obtain ⟨x,r,b,h1,h2⟩ :=h
 obtain ⟨c0,c1,c2,c3⟩ :=h1.cells
 rcases Xl h2 hk with ⟨hx,e⟩ | ⟨rfl,rfl,hr,e⟩
 ·rw [e]
  have hb : (x.toList==k.toList) =false :=by rw [Jv];simpa using hx
  clear hx
  go_enter Tryz.func47,Tryz.ntmps47
  go_wp2_with fail
  go_ret
  exact ⟨rfl,⟨x,r,b,h1,h2⟩,But.refl _ _⟩
 ·rw [e]
  have NX :=Lo a w x r d h1 hr
  have hb : (x.toList==x.toList) =true :=beq_self_eq_true _
  go_enter Tryz.func47,Tryz.ntmps47
  go_wp2_with (go_at_call 21;go_must (go_fit NX;rintro e w1 ⟨rfl,hr1,hb1⟩))
  go_ret
  exact ⟨rfl,hr1,hb1⟩
set_option maxHeartbeats 1000000 in
theorem K5 (a :Nat) (s :St) (d :Int) (w :World) (h :Rd w a s d) :
  Calls Tryz.prog 46 #[.pointer (some ⟨a,0,none⟩)] w fun e w'=>e= .returned (.tuple #[]) ∧Rd w' a none d∧But a w w' :=by
 obtain ⟨x,r,b,h1,h2⟩ :=h
 exact (Ln a w x r d b h1).mono fun e w' ⟨he,hr,hb⟩ => ⟨he,⟨_,_,_,hr, .wrong⟩,hb⟩
theorem Jw {a :Nat} {w w' :World} (h :But a w w') {b o :Nat} {v :Value} (hc :w.cell? ⟨b,o,none⟩ =some v) (hn :b≠a) :w'.cell? ⟨b,o,none⟩ =some v :=by
 have hlt :b<w.heap.size :=by
  rcases Nat.lt_or_ge b w.heap.size with h | h
  ·exact h
  ·have :w.heap[b]? =none :=Array.getElem?_eq_none h
   simp [World.cell?,this] at hc
 rw [World.cell?_of_block (w :=w) (h.block b hlt hn)];exact hc
set_option maxHeartbeats 1000000 in
theorem Zk (a b off cap :Nat) (ks :List Wd) (s :St) (d :Int) (w :World) (h :Rd w a s d) (hks : ∀k∈ks,0<k.size) (hab :b≠a) (hc : ∀i k,ks[i]? =some k→w.cell? ⟨b,off+i,none⟩ =some (.string k)) (hl :ks.length≤1000) :
  Calls Tryz.prog 23 #[.pointer (some ⟨a,0,none⟩), .slice (some ⟨b,off,none⟩) ks.length cap] w fun e w'=>e= .returned (.tuple #[]) ∧Rd w' a (Mg ks s) d∧But a w w' :=by
 have HC :Hid _ :=hc
 have HK :Hid _ :=hks
 clear hc hks
 generalize hn :ks.length=n at*
 have HN :Hid _ :=hn
 clear hn
 go_enter Tryz.func23,Tryz.ntmps23
 go_wp2_with fail
 go_loopw [5,8] (fun _ i wr=> ∃k :Nat,k≤n∧i= .int .i64 k∧Rd wr a (Mg (ks.take k) s) d∧But a w wr) (fun _ i _=>n - (intOf i).toNat)
 case atStart=>exact ⟨0,Nat.zero_le _,rfl,h,But.refl _ _⟩
 case round=>
  obtain ⟨k,hk,rfl,hrd,hbut⟩ :=hrel
  by_cases hlt :k<n
  ·obtain ⟨x,hx⟩ : ∃x,ks[k]? =some x := ⟨_,List.getElem?_eq_getElem (by rw [HN.out];exact hlt)⟩
   have hc :=Jw hbut (HC.out k x hx) hab
   have hsz :=HK.out x (List.mem_of_getElem? hx)
   have HW :Hid (Mg (ks.take (k+1)) s=Ar x (Mg (ks.take k) s)) :=by
    show _=_
    rw [List.take_add_one,hx]
    simp [Mg]
   clear hx
   generalize Mg (ks.take k) s=t at hrd HW
   have SK :=Ix a x t d wr hrd hsz
   have hw0 :Ar x t=if (Ag x t).1 then (Ag x t).2 else none :=rfl
   rw [hw0] at HW
   generalize Ag x t=q at SK HW
   obtain ⟨q1,q2⟩ :=q
   have j0 : (0 :Int) ≤ (k :Int) :=by omega
   have j1 : (k :Int) < (n :Int) :=by omega
   cases q1
   ·go_wp2_with (first
     | (go_at_call 47;go_must (go_fit SK;rintro e w1 ⟨rfl,hr1,hb1⟩;have FA :=K5 a _ d w1 hr1))
     | (go_at_call 46;go_must (go_fit FA;rintro e w2 ⟨rfl,hr2,hb2⟩)))
    go_roundw
    case rel=>exact ⟨k+1,by omega,by go_num,by rw [HW.out];exact hr2,(hbut.trans hb1).trans hb2⟩
    case measure=>simp [intOf];omega
   ·go_wp2_with (first
     | (go_at_call 47;go_must (go_fit SK;rintro e w1 ⟨rfl,hr1,hb1⟩)))
    go_roundw
    case rel=>exact ⟨k+1,by omega,by go_num,by rw [HW.out];exact hr1,hbut.trans hb1⟩
    case measure=>simp [intOf];omega
  ·have hkn :k=n :=by omega
   subst hkn
   have e1 :ks.take k=ks :=by rw [←HN.out,List.take_length]
   rw [e1] at hrd
   go_wp2_with fail
   go_end0
   exact ⟨rfl,hrd,hbut⟩
end Go.Proofs.YtifjaegfpdjikaaGreatDoor

