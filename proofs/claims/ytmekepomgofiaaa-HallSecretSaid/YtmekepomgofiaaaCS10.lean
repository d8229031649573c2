import Derived.Test.YtmekepomgofiaaaCS09
set_option linter.all false
namespace Go.Ev
set_option linter.all false
def oP (d : Nat) (op : AOp) (r : Nat) : AOper := ⟨some d, op, none, r, [], true, []⟩
def oG (d : Nat) (op : AOp) (g : Nat) (b : Bool) (r : Nat) : AOper := ⟨some d, op, some (some g, b), r, [], true, []⟩
abbrev o_ (i : Nat) : Operand := .tmp i
abbrev oc (i : Int) : Operand := .const (.int .i64 i)
def rg_11_0 : List AOper := [(oP 23 (.faddr 2 (o_ 3)) 0), (oP 24 (.load none (o_ 23)) 0), (oP 25 (.len false (o_ 24)) 0), (oP 26 (.bin false .gtr (o_ 25) (oc 30)) 0), (oP 27 (.mov (o_ 26)) 0), (oG 28 (.mov (o_ 1)) 27 false 0), (oG 29 (.len false (o_ 28)) 27 false 0), (oG 30 (.bin false .gtr (o_ 29) (oc 15)) 27 false 0), (oP 31 (.pick (o_ 27) (.const (.bool true)) (o_ 30)) 0), (oP 32 (.mov (o_ 31)) 0), (oG 33 (.faddr 0 (o_ 5)) 32 false 0), (oG 34 (.load none (o_ 33)) 32 false 0), (oG 35 (.len false (o_ 34)) 32 false 0), (oG 36 (.bin false .gtr (o_ 35) (oc 15)) 32 false 0), (oP 37 (.pick (o_ 32) (.const (.bool true)) (o_ 36)) 0), (oP 38 (.mov (o_ 37)) 0), (oG 39 (.faddr 3 (o_ 3)) 38 false 0), (oG 40 (.load none (o_ 39)) 38 false 0), (oG 41 (.len false (o_ 40)) 38 false 0), (oG 42 (.bin false .gtr (o_ 41) (oc 200)) 38 false 0), (oP 43 (.pick (o_ 38) (.const (.bool true)) (o_ 42)) 0)]
def rg_11_1 : List AOper := [⟨(some 46), .load (some 4) (o_ 3), none, 0, [3, 4, 6, 7], false, []⟩, ⟨(some 47), .call 14 [(o_ 46)], none, 1, [3, 4, 6, 7], false, []⟩, (oP 48 (.mov (o_ 1)) 2), ⟨(some 49), .call 15 [(o_ 48)], none, 2, [3, 4, 6, 7], false, []⟩, ⟨(some 50), .faddr 0 (o_ 5), none, 3, [0, 1, 2, 6, 7], false, []⟩, ⟨(some 51), .load none (o_ 50), none, 4, [0, 1, 2, 6, 7], false, []⟩, ⟨(some 52), .call 16 [(o_ 51)], none, 5, [6, 7], false, []⟩, ⟨(some 53), .faddr 1 (o_ 5), none, 6, [0, 1, 2, 3, 4, 5], false, []⟩, ⟨(some 54), .load none (o_ 53), none, 7, [0, 1, 2, 3, 4, 5], false, []⟩, (oP 55 (.call 42 [(o_ 47), (o_ 49), (o_ 52), (o_ 54)]) 8), (oP 45 (.mov (o_ 55)) 9), (oP 56 (.extract (o_ 45) 0) 9), (oP 57 (.extract (o_ 45) 1) 9), (oP 7 (.mov (o_ 56)) 9), (oP 8 (.mov (o_ 57)) 9)]
def rg_11_2 : List AOper := [(oP 66 (.faddr 0 (o_ 5)) 0), (oP 67 (.load none (o_ 66)) 0), (oP 68 (.len false (o_ 67)) 0), (oP 69 (.mov (o_ 1)) 0), (oP 70 (.len false (o_ 69)) 0), (oP 71 (.bin false .neq (o_ 68) (o_ 70)) 0), (oP 72 (.mov (o_ 71)) 0), (oG 73 (.mov (o_ 7)) 72 false 0), (oG 74 (.len false (o_ 73)) 72 false 0), (oG 75 (.faddr 2 (o_ 3)) 72 false 0), (oG 76 (.load none (o_ 75)) 72 false 0), (oG 77 (.len false (o_ 76)) 72 false 0), (oG 78 (.bin false .neq (o_ 74) (o_ 77)) 72 false 0), (oP 79 (.pick (o_ 72) (.const (.bool true)) (o_ 78)) 0)]
def lp_11_3 : ACode := (.seq (.seq (.region [(oP 85 (.mov (o_ 11)) 0), (oP 86 (.faddr 3 (o_ 10)) 0), (oP 87 (.load none (o_ 86)) 0), (oP 88 (.len false (o_ 87)) 0), (oP 89 (.bin false .lss (o_ 85) (o_ 88)) 0)] 0)
 (.cond (o_ 89)
 .skip
 (.exit 0)))
 (.seq (.block 1 (.region [(oP 92 (.faddr 3 (o_ 10)) 0), (oP 93 (.load none (o_ 92)) 0), (oP 94 (.mov (o_ 11)) 0), (oP 95 (.iaddr 1 (o_ 93) (o_ 94)) 0), ⟨none, .store 1 (o_ 95) (oc 1000), none, 0, [], true, []⟩] 0))
 (.region [(oP 90 (.mov (o_ 11)) 0), (oP 91 (.bin false .add (o_ 90) (oc 1)) 0), (oP 11 (.mov (o_ 91)) 0)] 0)))
def rg_11_4 : List AOper := [(oP 119 (.mov (o_ 9)) 0), (oP 120 (.mov (o_ 14)) 0), (oP 121 (.mov (o_ 15)) 0), (oP 122 (.convInt .i64 (o_ 121)) 0), ⟨(some 123), .faddr 0 (o_ 5), none, 0, [4, 5, 6], false, []⟩, ⟨(some 124), .load none (o_ 123), none, 1, [4, 5, 6], false, []⟩, (oP 125 (.mov (o_ 14)) 2), ⟨(some 126), .iaddr 1 (o_ 124) (o_ 125), none, 2, [4, 5, 6], false, []⟩, ⟨(some 127), .load none (o_ 126), none, 3, [4, 5, 6], false, []⟩, (oP 128 (.mov (o_ 1)) 4), (oP 129 (.mov (o_ 14)) 4), ⟨(some 130), .iaddr 7 (o_ 128) (o_ 129), none, 4, [0, 1, 2, 3], false, []⟩, ⟨(some 131), .faddr 4 (o_ 130), none, 5, [0, 1, 2, 3], false, []⟩, ⟨(some 132), .load none (o_ 131), none, 6, [0, 1, 2, 3], false, []⟩, (oP 133 (.bin false .sub (o_ 127) (o_ 132)) 7), (oP 134 (.bin false .add (o_ 133) (oc 1)) 7), (oP 135 (.bin false .rem (o_ 122) (o_ 134)) 7), (oP 136 (.bin false .rem (o_ 135) (oc 25)) 7), (oP 137 (.iaddr 7 (o_ 119) (o_ 120)) 7), (oP 138 (.faddr 1 (o_ 137)) 8), ⟨none, .store 1 (o_ 138) (o_ 136), none, 9, [], true, []⟩]
def rg_11_5 : List AOper := [(oP 139 (.mov (o_ 9)) 0), (oP 140 (.mov (o_ 14)) 0), (oP 141 (.mov (o_ 9)) 0), (oP 142 (.mov (o_ 14)) 0), (oP 143 (.mov (o_ 15)) 0), (oP 144 (.convInt .i64 (o_ 143)) 0), (oP 145 (.bin false .mul (o_ 144) (oc 3)) 0), (oP 146 (.mov (o_ 15)) 0), (oP 147 (.convInt .i64 (o_ 146)) 0), (oP 148 (.bin false .rem (o_ 147) (oc 100)) 0), (oP 149 (.iaddr 7 (o_ 139) (o_ 140)) 0), (oP 150 (.faddr 3 (o_ 149)) 0), ⟨none, .store 1 (o_ 150) (o_ 145), none, 0, [], true, []⟩, (oP 151 (.iaddr 7 (o_ 141) (o_ 142)) 0), (oP 152 (.faddr 6 (o_ 151)) 0), ⟨none, .store 1 (o_ 152) (o_ 148), none, 0, [], true, []⟩]
def rg_11_6 : List AOper := [(oP 167 (.mov (o_ 16)) 0), (oP 168 (.faddr 1 (o_ 5)) 0), (oP 169 (.load none (o_ 168)) 0), (oP 170 (.bin false .neq (o_ 167) (o_ 169)) 0), (oP 171 (.mov (o_ 170)) 0), (oG 172 (.faddr 1 (o_ 3)) 171 true 0), (oG 173 (.load none (o_ 172)) 171 true 0), (oG 174 (.bin false .eql (o_ 173) (oc 0)) 171 true 0), (oP 175 (.pick (o_ 171) (o_ 174) (.const (.bool false))) 0)]
def rg_11_7 : List AOper := [(oP 181 (.mov (o_ 1)) 0), (oP 182 (.mov (o_ 14)) 0), (oP 183 (.iaddr 7 (o_ 181) (o_ 182)) 0), (oP 184 (.faddr 2 (o_ 183)) 0), (oP 185 (.load none (o_ 184)) 0), (oP 186 (.bin false .gtr (o_ 185) (oc 1)) 0), (oP 187 (.mov (o_ 186)) 0), (oG 188 (.mov (o_ 12)) 187 true 0), (oG 189 (.len false (o_ 188)) 187 true 0), (oG 190 (.mov (o_ 1)) 187 true 0), (oG 191 (.len false (o_ 190)) 187 true 0), (oG 192 (.bin false .eql (o_ 189) (o_ 191)) 187 true 0), (oP 193 (.pick (o_ 187) (o_ 192) (.const (.bool false))) 0)]
def rg_11_8 : List AOper := [(oP 194 (.mov (o_ 15)) 0), (oP 195 (.convInt .i64 (o_ 194)) 0), (oP 196 (.mov (o_ 1)) 0), (oP 197 (.mov (o_ 14)) 0), (oP 198 (.iaddr 7 (o_ 196) (o_ 197)) 0), (oP 199 (.faddr 2 (o_ 198)) 0), (oP 200 (.load none (o_ 199)) 0), (oP 201 (.bin false .sub (o_ 200) (oc 1)) 0), (oP 202 (.bin false .rem (o_ 195) (o_ 201)) 0), (oP 203 (.bin false .add (oc 1) (o_ 202)) 0), (oP 17 (.mov (o_ 203)) 0)]
def rg_11_9 : List AOper := [(oP 204 (.mov (o_ 12)) 0), (oP 205 (.mov (o_ 14)) 0), (oP 206 (.mov (o_ 12)) 0), (oP 207 (.mov (o_ 14)) 0), (oP 208 (.mov (o_ 17)) 0), ⟨(some 209), .faddr 2 (o_ 3), none, 0, [3, 4, 5, 1000012], false, []⟩, ⟨(some 210), .load none (o_ 209), none, 1, [3, 4, 5, 1000012], false, []⟩, ⟨(some 211), .len false (o_ 210), none, 2, [3, 4, 5, 1000012], false, []⟩, ⟨(some 212), .iaddr 7 (o_ 204) (o_ 205), none, 3, [0, 1, 2], false, []⟩, ⟨(some 213), .faddr 2 (o_ 212), none, 4, [0, 1, 2], false, []⟩, ⟨none, .store 1 (o_ 213) (o_ 208), none, 5, [0, 1, 2], false, [1000012]⟩, (oP 214 (.iaddr 7 (o_ 206) (o_ 207)) 6), (oP 215 (.faddr 5 (o_ 214)) 7), ⟨none, .store 1 (o_ 215) (o_ 211), none, 8, [], true, []⟩]
def rg_11_10 : List AOper := [(oP 220 (.mov (o_ 1)) 0), (oP 221 (.mov (o_ 14)) 0), ⟨(some 222), .iaddr 7 (o_ 220) (o_ 221), none, 0, [3, 4, 1000018], false, []⟩, ⟨(some 223), .faddr 2 (o_ 222), none, 1, [3, 4, 1000018], false, []⟩, ⟨(some 224), .load none (o_ 223), none, 2, [3, 4, 1000018], false, []⟩, (oP 225 (.mov (o_ 17)) 3), (oP 226 (.bin false .sub (o_ 224) (o_ 225)) 3), ⟨(some 227), .faddr 1 (o_ 18), none, 3, [0, 1, 2], false, []⟩, ⟨none, .store 1 (o_ 227) (oc 0), none, 4, [0, 1, 2], false, [1000018]⟩, (oP 228 (.faddr 2 (o_ 18)) 5), ⟨none, .store 1 (o_ 228) (o_ 226), none, 6, [], true, []⟩]
def rg_11_11 : List AOper := [(oP 229 (.mov (o_ 12)) 0), ⟨(some 230), .load (some 7) (o_ 18), none, 0, [3, 4, 5, 6, 7], false, []⟩, ⟨(some 231), .bslice 7 1 [(.val (.int .i64 0)), (.val (.int .i64 0)), (.val (.int .i64 0)), (.val (.int .i64 0)), (.val (.int .i64 0)), (.val (.int .i64 0)), (.val (.int .i64 0))] [(0, (o_ 230))], none, 1, [3, 4, 5, 6, 7], false, []⟩, ⟨(some 232), .append 7 (o_ 229) (o_ 231), none, 2, [3, 4, 5, 6, 7], false, [1000012]⟩, (oP 233 (.mov (o_ 13)) 3), ⟨(some 234), .faddr 0 (o_ 5), none, 3, [0, 1, 2, 1000012], false, []⟩, ⟨(some 235), .load none (o_ 234), none, 4, [0, 1, 2, 1000012], false, []⟩, (oP 236 (.mov (o_ 14)) 5), ⟨(some 237), .iaddr 1 (o_ 235) (o_ 236), none, 5, [0, 1, 2, 1000012], false, []⟩, ⟨(some 238), .load none (o_ 237), none, 6, [0, 1, 2, 1000012], false, []⟩, (oP 239 (.mov (o_ 17)) 7), (oP 240 (.bin false .add (o_ 238) (o_ 239)) 7), ⟨(some 241), .bslice 1 1 [(.val (.int .i64 0))] [(0, (o_ 240))], none, 7, [0, 1, 2, 1000012], false, []⟩, (oP 242 (.append 1 (o_ 233) (o_ 241)) 8), (oP 12 (.mov (o_ 232)) 9), (oP 13 (.mov (o_ 242)) 9)]
def lp_11_12 : ACode := (.seq (.seq (.region [(oP 101 (.mov (o_ 14)) 0), (oP 102 (.mov (o_ 1)) 0), (oP 103 (.len false (o_ 102)) 0), (oP 104 (.bin false .lss (o_ 101) (o_ 103)) 0)] 0)
 (.cond (o_ 104)
 .skip
 (.exit 2)))
 (.seq (.block 3 (.seq (.seq (.region [(oP 107 (.mov (o_ 1)) 0), (oP 108 (.mov (o_ 14)) 0), ⟨(some 109), .iaddr 7 (o_ 107) (o_ 108), none, 0, [3, 4], false, []⟩, ⟨(some 110), .faddr 0 (o_ 109), none, 1, [3, 4], false, []⟩, ⟨(some 111), .load none (o_ 110), none, 2, [3, 4], false, []⟩, ⟨(some 112), .faddr 1 (o_ 5), none, 3, [0, 1, 2], false, []⟩, ⟨(some 113), .load none (o_ 112), none, 4, [0, 1, 2], false, []⟩, (oP 114 (.bin false .eql (o_ 111) (o_ 113)) 5)] 5)
 (.cond (o_ 114)
 (.exit 3)
 .skip))
 (.seq (.region [(oP 115 (.faddr 2 (o_ 5)) 0), (oP 116 (.load none (o_ 115)) 0), (oP 117 (.mov (o_ 14)) 0), (oP 118 (.call 45 [(o_ 116), (o_ 117)]) 0), (oP 15 (.mov (o_ 118)) 1)] 1)
 (.seq (.region rg_11_4 10)
 (.seq (.region rg_11_5 0)
 (.seq (.region [(oP 153 (.mov (o_ 9)) 0), (oP 154 (.mov (o_ 14)) 0), (oP 155 (.faddr 2 (o_ 3)) 0), (oP 156 (.load none (o_ 155)) 0), (oP 157 (.len false (o_ 156)) 0), (oP 158 (.iaddr 7 (o_ 153) (o_ 154)) 0), (oP 159 (.faddr 5 (o_ 158)) 0), ⟨none, .store 1 (o_ 159) (o_ 157), none, 0, [], true, []⟩] 0)
 (.seq (.seq (.region [(oP 160 (.mov (o_ 1)) 0), (oP 161 (.mov (o_ 14)) 0), (oP 162 (.iaddr 7 (o_ 160) (o_ 161)) 0), (oP 163 (.faddr 0 (o_ 162)) 0), (oP 164 (.load none (o_ 163)) 0), (oP 165 (.bin false .add (o_ 164) (oc 1)) 0), (oP 166 (.bin false .rem (o_ 165) (oc 21)) 0), (oP 16 (.mov (o_ 166)) 0)] 0)
 (.seq (.region rg_11_6 0)
 (.cond (o_ 175)
 (.region [(oP 176 (.mov (o_ 9)) 0), (oP 177 (.mov (o_ 14)) 0), (oP 178 (.mov (o_ 16)) 0), (oP 179 (.iaddr 7 (o_ 176) (o_ 177)) 0), (oP 180 (.faddr 0 (o_ 179)) 0), ⟨none, .store 1 (o_ 180) (o_ 178), none, 0, [], true, []⟩] 0)
 .skip)))
 (.seq (.region rg_11_7 0)
 (.cond (o_ 193)
 (.seq (.region rg_11_8 0)
 (.seq (.region rg_11_9 9)
 (.seq (.region [(oP 216 (.mov (o_ 1)) 0), (oP 217 (.mov (o_ 14)) 0), (oP 218 (.iaddr 7 (o_ 216) (o_ 217)) 0), (oP 219 (.load (some 7) (o_ 218)) 0), (oP 18 (.zero [(.val (.int .i64 0)), (.val (.int .i64 0)), (.val (.int .i64 0)), (.val (.int .i64 0)), (.val (.int .i64 0)), (.val (.int .i64 0)), (.val (.int .i64 0))]) 0), ⟨none, .store 7 (o_ 18) (o_ 219), none, 1, [], true, []⟩] 1)
 (.seq (.region rg_11_10 7)
 (.region rg_11_11 9)))))
 .skip)))))))))
 (.region [(oP 105 (.mov (o_ 14)) 0), (oP 106 (.bin false .add (o_ 105) (oc 1)) 0), (oP 14 (.mov (o_ 106)) 0)] 0)))
def rg_11_13 : List AOper := [⟨(some 244), .load (some 4) (o_ 10), none, 0, [1, 2, 3, 4, 5], false, []⟩, (oP 245 (.mov (o_ 9)) 1), ⟨(some 246), .faddr 0 (o_ 5), none, 1, [0, 4, 5], false, []⟩, ⟨(some 247), .load none (o_ 246), none, 2, [0, 4, 5], false, []⟩, ⟨(some 248), .call 16 [(o_ 247)], none, 3, [0, 4, 5], false, []⟩, ⟨(some 249), .faddr 1 (o_ 5), none, 4, [0, 1, 2, 3], false, []⟩, ⟨(some 250), .load none (o_ 249), none, 5, [0, 1, 2, 3], false, []⟩, (oP 251 (.call 42 [(o_ 244), (o_ 245), (o_ 248), (o_ 250)]) 6), (oP 243 (.mov (o_ 251)) 7), (oP 252 (.extract (o_ 243) 0) 7), (oP 253 (.extract (o_ 243) 1) 7), (oP 19 (.mov (o_ 252)) 7), (oP 20 (.mov (o_ 253)) 7)]
def rg_11_14 : List AOper := [⟨(some 263), .load (some 4) (o_ 3), none, 0, [2, 3], false, []⟩, ⟨(some 264), .call 14 [(o_ 263)], none, 1, [2, 3], false, []⟩, (oP 265 (.mov (o_ 12)) 2), (oP 266 (.mov (o_ 13)) 2), ⟨(some 267), .faddr 1 (o_ 5), none, 2, [0, 1], false, []⟩, ⟨(some 268), .load none (o_ 267), none, 3, [0, 1], false, []⟩, (oP 269 (.call 42 [(o_ 264), (o_ 265), (o_ 266), (o_ 268)]) 4), (oP 262 (.mov (o_ 269)) 5), (oP 270 (.extract (o_ 262) 0) 5), (oP 271 (.extract (o_ 262) 1) 5), (oP 21 (.mov (o_ 270)) 5), (oP 22 (.mov (o_ 271)) 5)]
def rg_11_15 : List AOper := [(oP 272 (.mov (o_ 22)) 0), (oP 273 (.bin false .eql (o_ 272) (oc 0)) 0), (oP 274 (.mov (o_ 273)) 0), (oG 275 (.mov (o_ 7)) 274 true 0), (oG 276 (.mov (o_ 21)) 274 true 0), (oG 277 (.call 46 [(o_ 275), (o_ 276)]) 274 true 0), (oP 278 (.pick (o_ 274) (o_ 277) (.const (.bool false))) 1), (oP 279 (.mov (o_ 278)) 1), (oG 280 (.call 13 []) 279 true 1), (oP 281 (.pick (o_ 279) (o_ 280) (.const (.bool false))) 2), (oP 6 (.mov (o_ 281)) 2)]
def rs_11_16 : ACode := (.seq (.seq (.region rg_11_13 7)
 (.seq (.region [(oP 254 (.mov (o_ 20)) 0), (oP 255 (.bin false .eql (o_ 254) (oc 0)) 0)] 0)
 (.cond (o_ 255)
 (.seq (.region [(oP 256 (.mov (o_ 7)) 0), (oP 257 (.mov (o_ 19)) 0), (oP 258 (.call 46 [(o_ 256), (o_ 257)]) 0), (oP 259 (.un .not (o_ 258)) 1)] 1)
 (.cond (o_ 259)
 (.seq (.region [(oP 6 (.mov (.const (.bool false))) 0)] 0)
 .ret)
 .skip))
 (.seq (.region [(oP 260 (.mov (o_ 20)) 0), (oP 261 (.bin false .neq (o_ 260) (oc 100)) 0)] 0)
 (.cond (o_ 261)
 (.seq (.region [(oP 6 (.mov (.const (.bool false))) 0)] 0)
 .ret)
 .skip)))))
 (.seq (.region rg_11_14 5)
 (.seq (.region rg_11_15 2)
 .ret)))
def rs_11_17 : ACode := (.seq (.region [(oP 96 (.mov (o_ 1)) 0), ⟨(some 97), .call 15 [(o_ 96)], none, 0, [1, 2], false, []⟩, ⟨(some 98), .faddr 0 (o_ 5), none, 1, [0], false, []⟩, ⟨(some 99), .load none (o_ 98), none, 2, [0], false, []⟩, (oP 100 (.call 16 [(o_ 99)]) 3), (oP 12 (.mov (o_ 97)) 4), (oP 13 (.mov (o_ 100)) 4)] 4)
 (.seq (.seq (.region [(oP 14 (.mov (oc 0)) 0)] 0)
 (.block 2 (.loop lp_11_12)))
 rs_11_16))
def af_11 : AFun := ⟨282, [.inl 6], (.seq (.region [(oP 3 (.box 4 (o_ 0)) 0), (oP 5 (.box 3 (o_ 2)) 1), (oP 6 (.mov (.const (.bool false))) 2)] 2)
 (.seq (.seq (.region rg_11_0 0)
 (.cond (o_ 43)
 (.seq (.region [(oP 44 (.call 13 []) 0), (oP 6 (.mov (o_ 44)) 1)] 1)
 .ret)
 .skip))
 (.seq (.region rg_11_1 9)
 (.seq (.seq (.region [(oP 58 (.mov (o_ 8)) 0), (oP 59 (.bin false .neq (o_ 58) (oc 0)) 0)] 0)
 (.cond (o_ 59)
 (.seq (.region [(oP 60 (.mov (o_ 7)) 0), (oP 61 (.len false (o_ 60)) 0), (oP 62 (.bin false .eql (o_ 61) (oc 0)) 0), (oP 63 (.mov (o_ 62)) 0), (oG 64 (.call 13 []) 63 true 0), (oP 65 (.pick (o_ 63) (o_ 64) (.const (.bool false))) 1), (oP 6 (.mov (o_ 65)) 1)] 1)
 .ret)
 .skip))
 (.seq (.seq (.region rg_11_2 0)
 (.cond (o_ 79)
 (.seq (.region [(oP 6 (.mov (.const (.bool false))) 0)] 0)
 .ret)
 .skip))
 (.seq (.region [(oP 80 (.mov (o_ 1)) 0), ⟨(some 81), .call 15 [(o_ 80)], none, 0, [1, 3], false, []⟩, ⟨(some 82), .load (some 4) (o_ 3), none, 1, [0, 3], false, []⟩, ⟨(some 83), .call 14 [(o_ 82)], none, 2, [3], false, []⟩, ⟨(some 10), .zero [(.val (.int .i64 0)), (.val (.int .i64 0)), (.val (.slice none 0 0)), (.val (.slice none 0 0))], none, 3, [0, 1, 2], false, []⟩, (oP 9 (.mov (o_ 81)) 4), ⟨none, .store 4 (o_ 10) (o_ 83), none, 4, [], true, []⟩] 5)
 (.seq (.region [(oP 84 (.faddr 0 (o_ 10)) 0), ⟨none, .store 1 (o_ 84) (oc 4), none, 0, [], true, []⟩] 0)
 (.seq (.seq (.region [(oP 11 (.mov (oc 0)) 0)] 0)
 (.block 0 (.loop lp_11_3)))
 rs_11_17))))))))⟩
def rg_13_0 : List AOper := [(oP 16 (.load (some 4) (o_ 1)) 0), (oP 17 (.mov (o_ 2)) 0), (oP 18 (.call 33 [(o_ 16), (o_ 17)]) 0), (oP 15 (.mov (o_ 18)) 1), (oP 19 (.extract (o_ 15) 0) 1), (oP 20 (.extract (o_ 15) 1) 1), (oP 21 (.extract (o_ 15) 2) 1), (oP 3 (.mov (o_ 19)) 1), (oP 4 (.mov (o_ 20)) 1), (oP 5 (.mov (o_ 21)) 1)]
def rg_13_1 : List AOper := [(oP 23 (.load (some 4) (o_ 1)) 0), (oP 24 (.mov (o_ 2)) 0), (oP 25 (.bslice 1 2 [(.val (.int .i64 0))] [(0, (oc 1)), (1, (oc 3))]) 0), (oP 26 (.call 21 [(o_ 23), (o_ 24), (o_ 25)]) 1), (oP 22 (.mov (o_ 26)) 2), (oP 27 (.extract (o_ 22) 0) 2), (oP 28 (.extract (o_ 22) 1) 2), (oP 6 (.zero [(.val (.int .u8 0)), (.val (.int .i64 0)), (.val (.int .i64 0)), (.val (.int .i64 0))]) 2), ⟨none, .store 4 (o_ 6) (o_ 27), none, 3, [], true, []⟩, (oP 7 (.mov (o_ 28)) 3)]
def rg_13_2 : List AOper := [(oP 29 (.mov (o_ 5)) 0), (oP 30 (.bin false .neq (o_ 29) (oc 0)) 0), (oP 31 (.mov (o_ 30)) 0), (oG 32 (.mov (o_ 3)) 31 false 0), (oG 33 (.bslice 1 2 [(.val (.int .i64 0))] [(0, (oc 3)), (1, (oc 1))]) 31 false 0), (oG 34 (.call 25 [(o_ 32), (o_ 33)]) 31 false 1), (oG 35 (.un .not (o_ 34)) 31 false 2), (oP 36 (.pick (o_ 31) (.const (.bool true)) (o_ 35)) 2), (oP 37 (.mov (o_ 36)) 2), (oG 38 (.mov (o_ 4)) 37 false 2), (oG 39 (.bin false .neq (o_ 38) (oc 11)) 37 false 2), (oP 40 (.pick (o_ 37) (.const (.bool true)) (o_ 39)) 2), (oP 41 (.mov (o_ 40)) 2), (oG 42 (.mov (o_ 7)) 41 false 2), (oG 43 (.bin false .neq (o_ 42) (oc 100)) 41 false 2), (oP 44 (.pick (o_ 41) (.const (.bool true)) (o_ 43)) 2), (oP 45 (.mov (o_ 44)) 2), (oG 46 (.load (some 4) (o_ 6)) 45 false 2), (oG 47 (.build [(.val (.int .u8 0)), (.val (.int .i64 0)), (.val (.int .i64 0)), (.val (.int .i64 0))] [(0, 1, (.const (.int .u8 4))), (2, 1, (oc 1))]) 45 false 2), (oG 48 (.eqAgg .neq [0, 0, 0, 0] (o_ 46) (o_ 47)) 45 false 2), (oP 49 (.pick (o_ 45) (.const (.bool true)) (o_ 48)) 2)]
def rg_13_3 : List AOper := [(oP 51 (.load (some 4) (o_ 1)) 0), (oP 52 (.mov (o_ 2)) 0), (oP 53 (.mov (o_ 3)) 0), (oP 54 (.call 42 [(o_ 51), (o_ 52), (o_ 53), (oc 0)]) 0), (oP 50 (.mov (o_ 54)) 1), (oP 55 (.extract (o_ 50) 0) 1), (oP 56 (.extract (o_ 50) 1) 1), (oP 8 (.mov (o_ 55)) 1), (oP 5 (.mov (o_ 56)) 1)]
def rg_13_4 : List AOper := [(oP 58 (.mov (o_ 10)) 0), (oP 59 (.mov (o_ 8)) 0), (oP 60 (.len false (o_ 59)) 0), (oP 61 (.bin false .lss (o_ 58) (o_ 60)) 0), (oP 62 (.mov (o_ 61)) 0), (oG 63 (.mov (o_ 8)) 62 true 0), (oG 64 (.len false (o_ 63)) 62 true 0), (oG 65 (.mov (o_ 9)) 62 true 0), (oG 66 (.len false (o_ 65)) 62 true 0), (oG 67 (.bin false .eql (o_ 64) (o_ 66)) 62 true 0), (oP 68 (.pick (o_ 62) (o_ 67) (.const (.bool false))) 0)]
def rg_13_5 : List AOper := [(oP 71 (.mov (o_ 8)) 0), (oP 72 (.mov (o_ 10)) 0), ⟨(some 73), .iaddr 1 (o_ 71) (o_ 72), none, 0, [2, 3], false, []⟩, ⟨(some 74), .load none (o_ 73), none, 1, [2, 3], false, []⟩, (oP 75 (.mov (o_ 9)) 2), (oP 76 (.mov (o_ 10)) 2), ⟨(some 77), .iaddr 1 (o_ 75) (o_ 76), none, 2, [0, 1], false, []⟩, ⟨(some 78), .load none (o_ 77), none, 3, [0, 1], false, []⟩, (oP 79 (.bin false .neq (o_ 74) (o_ 78)) 4)]
def lp_13_6 : ACode := (.seq (.seq (.region rg_13_4 0)
 (.cond (o_ 68)
 .skip
 (.exit 0)))
 (.seq (.block 1 (.seq (.region rg_13_5 4)
 (.cond (o_ 79)
 (.seq (.region [(oP 0 (.mov (.const (.bool false))) 0)] 0)
 .ret)
 .skip)))
 (.region [(oP 69 (.mov (o_ 10)) 0), (oP 70 (.bin false .add (o_ 69) (oc 1)) 0), (oP 10 (.mov (o_ 70)) 0)] 0)))
def rg_13_7 : List AOper := [(oP 80 (.mov (o_ 5)) 0), (oP 81 (.bin false .eql (o_ 80) (oc 0)) 0), (oP 82 (.mov (o_ 81)) 0), (oG 83 (.mov (o_ 8)) 82 true 0), (oG 84 (.len false (o_ 83)) 82 true 0), (oG 85 (.mov (o_ 9)) 82 true 0), (oG 86 (.len false (o_ 85)) 82 true 0), (oG 87 (.bin false .eql (o_ 84) (o_ 86)) 82 true 0), (oP 88 (.pick (o_ 82) (o_ 87) (.const (.bool false))) 0), (oP 0 (.mov (o_ 88)) 0)]
def rs_13_8 : ACode := (.seq (.region rg_13_7 0)
 .ret)
def af_13 : AFun := ⟨89, [.inl 0], (.seq (.region [(oP 0 (.mov (.const (.bool false))) 0)] 0)
 (.seq (.region [(oP 12 (.call 47 []) 0), (oP 11 (.mov (o_ 12)) 1), (oP 13 (.extract (o_ 11) 0) 1), (oP 14 (.extract (o_ 11) 1) 1), (oP 1 (.zero [(.val (.int .i64 0)), (.val (.int .i64 0)), (.val (.slice none 0 0)), (.val (.slice none 0 0))]) 1), ⟨none, .store 4 (o_ 1) (o_ 13), none, 2, [], true, []⟩, (oP 2 (.mov (o_ 14)) 2)] 2)
 (.seq (.region rg_13_0 1)
 (.seq (.region rg_13_1 3)
 (.seq (.seq (.region rg_13_2 2)
 (.cond (o_ 49)
 (.seq (.region [(oP 0 (.mov (.const (.bool false))) 0)] 0)
 .ret)
 .skip))
 (.seq (.region rg_13_3 1)
 (.seq (.region [(oP 57 (.bslice 1 6 [(.val (.int .u8 0))] [(0, (.const (.int .u8 3))), (1, (.const (.int .u8 3))), (2, (.const (.int .u8 2))), (3, (.const (.int .u8 1))), (4, (.const (.int .u8 1))), (5, (.const (.int .u8 0)))]) 0), (oP 9 (.mov (o_ 57)) 1)] 1)
 (.seq (.seq (.region [(oP 10 (.mov (oc 0)) 0)] 0)
 (.block 0 (.loop lp_13_6)))
 rs_13_8))))))))⟩
def rg_14_0 : List AOper := [⟨(some 3), .bslice 1 0 [(.val (.int .i64 0))] [], none, 0, [1, 2, 4, 5, 6], false, []⟩, ⟨(some 4), .faddr 2 (o_ 1), none, 1, [0, 4, 5, 6], false, []⟩, ⟨(some 5), .load none (o_ 4), none, 2, [0, 4, 5, 6], false, []⟩, ⟨(some 6), .append 1 (o_ 3) (o_ 5), none, 3, [4, 5, 6], false, [0]⟩, ⟨(some 7), .bslice 1 0 [(.val (.int .i64 0))] [], none, 4, [0, 1, 2, 3, 0, 5, 6, 8], false, []⟩, ⟨(some 8), .faddr 3 (o_ 1), none, 5, [0, 1, 2, 3, 0, 4], false, []⟩, ⟨(some 9), .load none (o_ 8), none, 6, [0, 1, 2, 3, 0, 4], false, []⟩, ⟨(some 10), .append 1 (o_ 7) (o_ 9), none, 7, [8], false, [4]⟩, ⟨(some 11), .faddr 2 (o_ 1), none, 8, [4, 7, 4], false, []⟩, ⟨none, .store 1 (o_ 11) (o_ 6), none, 9, [], true, []⟩, (oP 12 (.faddr 3 (o_ 1)) 10), ⟨none, .store 1 (o_ 12) (o_ 10), none, 11, [], true, []⟩]
def af_14 : AFun := ⟨14, [.inr (2, (some 4))], (.seq (.region [(oP 1 (.box 4 (o_ 0)) 0), (oP 2 (.zero [(.val (.int .i64 0)), (.val (.int .i64 0)), (.val (.slice none 0 0)), (.val (.slice none 0 0))]) 1)] 2)
 (.seq (.region rg_14_0 12)
 (.seq (.region [(oP 13 (.load (some 4) (o_ 1)) 0), ⟨none, .store 4 (o_ 2) (o_ 13), none, 0, [], true, []⟩] 0)
 .ret)))⟩
def af_15 : AFun := ⟨6, [.inl 2], (.seq (.region [(oP 2 (.mov (.const (.slice none 0 0))) 0)] 0)
 (.seq (.region [(oP 3 (.bslice 7 0 [(.val (.int .i64 0)), (.val (.int .i64 0)), (.val (.int .i64 0)), (.val (.int .i64 0)), (.val (.int .i64 0)), (.val (.int .i64 0)), (.val (.int .i64 0))] []) 0), (oP 4 (.mov (o_ 0)) 1), (oP 5 (.append 7 (o_ 3) (o_ 4)) 1), (oP 2 (.mov (o_ 5)) 2)] 2)
 .ret))⟩
def af_16 : AFun := ⟨6, [.inl 2], (.seq (.region [(oP 2 (.mov (.const (.slice none 0 0))) 0)] 0)
 (.seq (.region [(oP 3 (.bslice 1 0 [(.val (.int .i64 0))] []) 0), (oP 4 (.mov (o_ 0)) 1), (oP 5 (.append 1 (o_ 3) (o_ 4)) 1), (oP 2 (.mov (o_ 5)) 2)] 2)
 .ret))⟩
def rg_42_0 : List AOper := [(oP 15 (.load (some 4) (o_ 4)) 0), (oP 16 (.mov (o_ 1)) 0), (oP 17 (.mov (o_ 2)) 0), (oP 18 (.call 59 [(o_ 15), (o_ 16), (o_ 17)]) 0), (oP 14 (.mov (o_ 18)) 1), (oP 19 (.extract (o_ 14) 0) 1), (oP 20 (.extract (o_ 14) 1) 1), (oP 10 (.mov (o_ 19)) 1), (oP 11 (.mov (o_ 20)) 1)]
def rg_42_1 : List AOper := [(oP 36 (.mov (o_ 12)) 0), (oP 37 (.mov (o_ 13)) 0), (oP 38 (.load (some 4) (o_ 4)) 0), (oP 39 (.mov (o_ 10)) 0), (oP 40 (.mov (o_ 3)) 0), (oP 41 (.mov (o_ 13)) 0), (oP 42 (.call 78 [(o_ 38), (o_ 39), (o_ 40), (o_ 41)]) 0), (oP 43 (.iaddr 1 (o_ 36) (o_ 37)) 1), ⟨none, .store 1 (o_ 43) (o_ 42), none, 1, [], true, []⟩]
def lp_42_2 : ACode := (.seq (.region [(oP 34 (.bin false .lss (o_ 33) (o_ 32)) 0)] 0)
 (.seq (.cond (o_ 34)
 .skip
 (.exit 0))
 (.seq (.block 1 (.seq (.region [(oP 35 (.mov (o_ 33)) 0), (oP 13 (.mov (o_ 35)) 0)] 0)
 (.region rg_42_1 1)))
 (.region [(oP 44 (.bin false .add (o_ 33) (oc 1)) 0), (oP 33 (.mov (o_ 44)) 0)] 0))))
def rs_42_3 : ACode := (.seq (.region [(oP 45 (.mov (o_ 12)) 0), (oP 8 (.mov (o_ 45)) 0), (oP 9 (.mov (oc 0)) 0)] 0)
 .ret)
def af_42 : AFun := ⟨46, [.inl 8, .inl 9], (.seq (.region [(oP 4 (.box 4 (o_ 0)) 0), (oP 8 (.mov (.const (.slice none 0 0))) 1), (oP 9 (.mov (oc 0)) 1)] 1)
 (.seq (.region rg_42_0 1)
 (.seq (.seq (.region [(oP 21 (.mov (o_ 11)) 0), (oP 22 (.bin false .neq (o_ 21) (oc 0)) 0)] 0)
 (.cond (o_ 22)
 (.seq (.region [(oP 23 (.mov (o_ 11)) 0), (oP 8 (.mov (.const (.slice none 0 0))) 0), (oP 9 (.mov (o_ 23)) 0)] 0)
 .ret)
 .skip))
 (.seq (.seq (.region [(oP 24 (.mov (o_ 3)) 0), (oP 25 (.call 49 [(oc 0), (o_ 24), (oc 20)]) 0), (oP 26 (.un .not (o_ 25)) 1)] 1)
 (.cond (o_ 26)
 (.seq (.region [(oP 8 (.mov (.const (.slice none 0 0))) 0), (oP 9 (.mov (oc 3)) 0)] 0)
 .ret)
 .skip))
 (.seq (.region [(oP 27 (.faddr 2 (o_ 4)) 0), (oP 28 (.load none (o_ 27)) 0), (oP 29 (.len false (o_ 28)) 0), (oP 30 (.mkSlice 1 1 [(.val (.int .u8 0))] (o_ 29) (o_ 29)) 0), (oP 12 (.mov (o_ 30)) 1)] 1)
 (.seq (.seq (.region [(oP 31 (.mov (o_ 12)) 0), (oP 32 (.len false (o_ 31)) 0), (oP 33 (.mov (oc 0)) 0)] 0)
 (.block 0 (.loop lp_42_2)))
 rs_42_3))))))⟩
def af_45 : AFun := ⟨15, [.inl 4], (.seq (.region [(oP 4 (.mov (.const (.int .u8 0))) 0)] 0)
 (.seq (.seq (.region [(oP 5 (.mov (o_ 0)) 0), (oP 6 (.len false (o_ 5)) 0), (oP 7 (.bin false .eql (o_ 6) (oc 0)) 0)] 0)
 (.cond (o_ 7)
 (.seq (.region [(oP 4 (.mov (.const (.int .u8 0))) 0)] 0)
 .ret)
 .skip))
 (.seq (.region [(oP 8 (.mov (o_ 0)) 0), (oP 9 (.mov (o_ 1)) 0), (oP 10 (.mov (o_ 0)) 0), (oP 11 (.len false (o_ 10)) 0), (oP 12 (.bin false .rem (o_ 9) (o_ 11)) 0), (oP 13 (.iaddr 1 (o_ 8) (o_ 12)) 0), (oP 14 (.load none (o_ 13)) 0), (oP 4 (.mov (o_ 14)) 0)] 0)
 .ret)))⟩
def rg_46_0 : List AOper := [(oP 17 (.mov (o_ 0)) 0), (oP 18 (.mov (o_ 5)) 0), ⟨(some 19), .iaddr 1 (o_ 17) (o_ 18), none, 0, [2, 3], false, []⟩, ⟨(some 20), .load none (o_ 19), none, 1, [2, 3], false, []⟩, (oP 21 (.mov (o_ 1)) 2), (oP 22 (.mov (o_ 5)) 2), ⟨(some 23), .iaddr 1 (o_ 21) (o_ 22), none, 2, [0, 1], false, []⟩, ⟨(some 24), .load none (o_ 23), none, 3, [0, 1], false, []⟩, (oP 25 (.bin false .neq (o_ 20) (o_ 24)) 4)]
def lp_46_1 : ACode := (.seq (.seq (.region [(oP 11 (.mov (o_ 5)) 0), (oP 12 (.mov (o_ 0)) 0), (oP 13 (.len false (o_ 12)) 0), (oP 14 (.bin false .lss (o_ 11) (o_ 13)) 0)] 0)
 (.cond (o_ 14)
 .skip
 (.exit 0)))
 (.seq (.block 1 (.seq (.region rg_46_0 4)
 (.cond (o_ 25)
 (.seq (.region [(oP 4 (.mov (.const (.bool false))) 0)] 0)
 .ret)
 .skip)))
 (.region [(oP 15 (.mov (o_ 5)) 0), (oP 16 (.bin false .add (o_ 15) (oc 1)) 0), (oP 5 (.mov (o_ 16)) 0)] 0)))
def rs_46_2 : ACode := (.seq (.region [(oP 4 (.mov (.const (.bool true))) 0)] 0)
 .ret)
def af_46 : AFun := ⟨26, [.inl 4], (.seq (.region [(oP 4 (.mov (.const (.bool false))) 0)] 0)
 (.seq (.seq (.region [(oP 6 (.mov (o_ 0)) 0), (oP 7 (.len false (o_ 6)) 0), (oP 8 (.mov (o_ 1)) 0), (oP 9 (.len false (o_ 8)) 0), (oP 10 (.bin false .neq (o_ 7) (o_ 9)) 0)] 0)
 (.cond (o_ 10)
 (.seq (.region [(oP 4 (.mov (.const (.bool false))) 0)] 0)
 .ret)
 .skip))
 (.seq (.seq (.region [(oP 5 (.mov (oc 0)) 0)] 0)
 (.block 0 (.loop lp_46_1)))
 rs_46_2)))⟩
def af_47 : AFun := ⟨8, [.inr (0, (some 4)), .inl 1], (.seq (.region [(oP 0 (.zero [(.val (.int .i64 0)), (.val (.int .i64 0)), (.val (.slice none 0 0)), (.val (.slice none 0 0))]) 0), (oP 1 (.mov (.const (.slice none 0 0))) 1)] 1)
 (.seq (.region [(oP 2 (.bslice 1 6 [(.val (.int .i64 0))] [(0, (oc 1)), (1, (oc 1)), (2, (oc 1)), (3, (oc 1)), (4, (oc 1)), (5, (oc 1))]) 0), (oP 3 (.bslice 1 6 [(.val (.int .i64 0))] [(0, (oc 10)), (1, (oc 10)), (2, (oc 10)), (3, (oc 10)), (4, (oc 10)), (5, (oc 10))]) 1), (oP 4 (.build [(.val (.int .i64 0)), (.val (.int .i64 0)), (.val (.slice none 0 0)), (.val (.slice none 0 0))] [(0, 1, (oc 1)), (1, 1, (oc 1)), (2, 1, (o_ 2)), (3, 1, (o_ 3))]) 2), (oP 5 (.build [(.val (.int .i64 0)), (.val (.int .i64 0)), (.val (.int .i64 0)), (.val (.int .i64 0)), (.val (.int .i64 0)), (.val (.int .i64 0)), (.val (.int .i64 0))] [(1, 1, (oc 1)), (2, 1, (oc 2)), (3, 1, (oc 5)), (5, 1, (oc 6)), (6, 1, (oc 1))]) 2), (oP 6 (.build [(.val (.int .i64 0)), (.val (.int .i64 0)), (.val (.int .i64 0)), (.val (.int .i64 0)), (.val (.int .i64 0)), (.val (.int .i64 0)), (.val (.int .i64 0))] [(0, 1, (oc 1)), (1, 1, (oc 1)), (2, 1, (oc 1)), (3, 1, (oc 5)), (5, 1, (oc 6)), (6, 1, (oc 3))]) 2), (oP 7 (.bslice 7 2 [(.val (.int .i64 0)), (.val (.int .i64 0)), (.val (.int .i64 0)), (.val (.int .i64 0)), (.val (.int .i64 0)), (.val (.int .i64 0)), (.val (.int .i64 0))] [(0, (o_ 5)), (1, (o_ 6))]) 2), ⟨none, .store 4 (o_ 0) (o_ 4), none, 3, [], true, []⟩, (oP 1 (.mov (o_ 7)) 3)] 3)
 .ret))⟩
def rg_33_0 : List AOper := [⟨(some 10), .load (some 4) (o_ 2), none, 0, [1, 2], false, []⟩, (oP 11 (.mov (o_ 1)) 1), (oP 12 (.mov (o_ 1)) 1), ⟨(some 13), .len false (o_ 12), none, 1, [0], false, []⟩, ⟨(some 14), .mkSlice 1 8 [(.val (.int .i64 0))] (o_ 13) (o_ 13), none, 2, [0], false, []⟩, (oP 15 (.call 57 [(o_ 10), (o_ 11), (o_ 14)]) 3), (oP 9 (.mov (o_ 15)) 4), (oP 16 (.extract (o_ 9) 0) 4), (oP 17 (.extract (o_ 9) 1) 4), (oP 7 (.mov (o_ 16)) 4), (oP 6 (.mov (o_ 17)) 4)]
def rg_33_1 : List AOper := [(oP 21 (.load (some 4) (o_ 2)) 0), (oP 22 (.mov (o_ 7)) 0), (oP 23 (.mov (o_ 8)) 0), (oP 24 (.call 72 [(o_ 21), (o_ 22), (o_ 23), (oc 0)]) 0), (oP 25 (.extract (o_ 24) 0) 1), (oP 26 (.extract (o_ 24) 1) 1), (oP 27 (.extract (o_ 24) 2) 1), (oP 4 (.mov (o_ 25)) 1), (oP 5 (.mov (o_ 26)) 1), (oP 6 (.mov (o_ 27)) 1)]
def af_33 : AFun := ⟨28, [.inl 4, .inl 5, .inl 6], (.seq (.region [(oP 2 (.box 4 (o_ 0)) 0), (oP 4 (.mov (.const (.slice none 0 0))) 1), (oP 5 (.mov (oc 0)) 1), (oP 6 (.mov (oc 0)) 1)] 1)
 (.seq (.region rg_33_0 4)
 (.seq (.seq (.region [(oP 18 (.mov (o_ 6)) 0), (oP 19 (.bin false .neq (o_ 18) (oc 0)) 0)] 0)
 (.cond (o_ 19)
 (.seq (.region [(oP 20 (.mov (o_ 6)) 0), (oP 4 (.mov (.const (.slice none 0 0))) 0), (oP 5 (.mov (oc 0)) 0), (oP 6 (.mov (o_ 20)) 0)] 0)
 .ret)
 .skip))
 (.seq (.region [(oP 8 (.mov (.func 71)) 0)] 0)
 (.seq (.region rg_33_1 1)
 .ret)))))⟩
def rg_21_0 : List AOper := [(oP 12 (.load (some 4) (o_ 3)) 0), (oP 13 (.mov (o_ 1)) 0), (oP 14 (.mov (o_ 2)) 0), (oP 15 (.call 57 [(o_ 12), (o_ 13), (o_ 14)]) 0), (oP 11 (.mov (o_ 15)) 1), (oP 16 (.extract (o_ 11) 0) 1), (oP 17 (.extract (o_ 11) 1) 1), (oP 8 (.mov (o_ 16)) 1), (oP 9 (.mov (o_ 17)) 1)]
def af_21 : AFun := ⟨30, [.inr (6, (some 4)), .inl 7], (.seq (.region [(oP 3 (.box 4 (o_ 0)) 0), (oP 6 (.zero [(.val (.int .u8 0)), (.val (.int .i64 0)), (.val (.int .i64 0)), (.val (.int .i64 0))]) 1), (oP 7 (.mov (oc 0)) 2)] 2)
 (.seq (.region rg_21_0 1)
 (.seq (.seq (.region [(oP 18 (.mov (o_ 9)) 0), (oP 19 (.bin false .neq (o_ 18) (oc 0)) 0)] 0)
 (.cond (o_ 19)
 (.seq (.region [(oP 20 (.build [(.val (.int .u8 0)), (.val (.int .i64 0)), (.val (.int .i64 0)), (.val (.int .i64 0))] []) 0), (oP 21 (.mov (o_ 9)) 0), ⟨none, .store 4 (o_ 6) (o_ 20), none, 0, [], true, []⟩, (oP 7 (.mov (o_ 21)) 0)] 0)
 .ret)
 .skip))
 (.seq (.seq (.region [(oP 22 (.load (some 4) (o_ 3)) 0), (oP 23 (.mov (o_ 8)) 0), (oP 24 (.call 58 [(o_ 22), (o_ 23)]) 0), (oP 10 (.zero [(.val (.int .u8 0)), (.val (.int .i64 0)), (.val (.int .i64 0)), (.val (.int .i64 0))]) 1), ⟨none, .store 4 (o_ 10) (o_ 24), none, 2, [], true, []⟩] 2)
 (.seq (.region [(oP 25 (.faddr 0 (o_ 10)) 0), (oP 26 (.load none (o_ 25)) 0), (oP 27 (.bin false .neq (o_ 26) (.const (.int .u8 0))) 0)] 0)
 (.cond (o_ 27)
 (.seq (.region [(oP 28 (.load (some 4) (o_ 10)) 0), ⟨none, .store 4 (o_ 6) (o_ 28), none, 0, [], true, []⟩, (oP 7 (.mov (oc 100)) 0)] 0)
 .ret)
 .skip)))
 (.seq (.region [(oP 29 (.build [(.val (.int .u8 0)), (.val (.int .i64 0)), (.val (.int .i64 0)), (.val (.int .i64 0))] []) 0), ⟨none, .store 4 (o_ 6) (o_ 29), none, 0, [], true, []⟩, (oP 7 (.mov (oc 0)) 0)] 0)
 .ret)))))⟩
def rg_25_0 : List AOper := [(oP 17 (.mov (o_ 0)) 0), (oP 18 (.mov (o_ 5)) 0), ⟨(some 19), .iaddr 1 (o_ 17) (o_ 18), none, 0, [2, 3], false, []⟩, ⟨(some 20), .load none (o_ 19), none, 1, [2, 3], false, []⟩, (oP 21 (.mov (o_ 1)) 2), (oP 22 (.mov (o_ 5)) 2), ⟨(some 23), .iaddr 1 (o_ 21) (o_ 22), none, 2, [0, 1], false, []⟩, ⟨(some 24), .load none (o_ 23), none, 3, [0, 1], false, []⟩, (oP 25 (.bin false .neq (o_ 20) (o_ 24)) 4)]
def lp_25_1 : ACode := (.seq (.seq (.region [(oP 11 (.mov (o_ 5)) 0), (oP 12 (.mov (o_ 0)) 0), (oP 13 (.len false (o_ 12)) 0), (oP 14 (.bin false .lss (o_ 11) (o_ 13)) 0)] 0)
 (.cond (o_ 14)
 .skip
 (.exit 0)))
 (.seq (.block 1 (.seq (.region rg_25_0 4)
 (.cond (o_ 25)
 (.seq (.region [(oP 4 (.mov (.const (.bool false))) 0)] 0)
 .ret)
 .skip)))
 (.region [(oP 15 (.mov (o_ 5)) 0), (oP 16 (.bin false .add (o_ 15) (oc 1)) 0), (oP 5 (.mov (o_ 16)) 0)] 0)))
def rs_25_2 : ACode := (.seq (.region [(oP 4 (.mov (.const (.bool true))) 0)] 0)
 .ret)
def af_25 : AFun := ⟨26, [.inl 4], (.seq (.region [(oP 4 (.mov (.const (.bool false))) 0)] 0)
 (.seq (.seq (.region [(oP 6 (.mov (o_ 0)) 0), (oP 7 (.len false (o_ 6)) 0), (oP 8 (.mov (o_ 1)) 0), (oP 9 (.len false (o_ 8)) 0), (oP 10 (.bin false .neq (o_ 7) (o_ 9)) 0)] 0)
 (.cond (o_ 10)
 (.seq (.region [(oP 4 (.mov (.const (.bool false))) 0)] 0)
 .ret)
 .skip))
 (.seq (.seq (.region [(oP 5 (.mov (oc 0)) 0)] 0)
 (.block 0 (.loop lp_25_1)))
 rs_25_2)))⟩
def rg_59_0 : List AOper := [(oP 11 (.load (some 4) (o_ 3)) 0), (oP 12 (.mov (o_ 1)) 0), (oP 13 (.mov (o_ 2)) 0), (oP 14 (.call 57 [(o_ 11), (o_ 12), (o_ 13)]) 0), (oP 10 (.mov (o_ 14)) 1), (oP 15 (.extract (o_ 10) 0) 1), (oP 16 (.extract (o_ 10) 1) 1), (oP 8 (.mov (o_ 15)) 1), (oP 9 (.mov (o_ 16)) 1)]
def af_59 : AFun := ⟨25, [.inl 6, .inl 7], (.seq (.region [(oP 3 (.box 4 (o_ 0)) 0), (oP 6 (.mov (.const (.slice none 0 0))) 1), (oP 7 (.mov (oc 0)) 1)] 1)
 (.seq (.region rg_59_0 1)
 (.seq (.seq (.region [(oP 17 (.mov (o_ 9)) 0), (oP 18 (.bin false .neq (o_ 17) (oc 0)) 0)] 0)
 (.cond (o_ 18)
 (.seq (.region [(oP 19 (.mov (o_ 9)) 0), (oP 6 (.mov (.const (.slice none 0 0))) 0), (oP 7 (.mov (o_ 19)) 0)] 0)
 .ret)
 .skip))
 (.seq (.seq (.region [(oP 20 (.load (some 4) (o_ 3)) 0), (oP 21 (.mov (o_ 8)) 0), (oP 22 (.call 91 [(o_ 20), (o_ 21)]) 0), (oP 23 (.un .not (o_ 22)) 1)] 1)
 (.cond (o_ 23)
 (.seq (.region [(oP 6 (.mov (.const (.slice none 0 0))) 0), (oP 7 (.mov (oc 100)) 0)] 0)
 .ret)
 .skip))
 (.seq (.region [(oP 24 (.mov (o_ 8)) 0), (oP 6 (.mov (o_ 24)) 0), (oP 7 (.mov (oc 0)) 0)] 0)
 .ret)))))⟩
def rg_49_0 : List AOper := [(oP 7 (.mov (o_ 0)) 0), (oP 8 (.mov (o_ 1)) 0), (oP 9 (.bin false .leq (o_ 7) (o_ 8)) 0), (oP 10 (.mov (o_ 9)) 0), (oG 11 (.mov (o_ 1)) 10 true 0), (oG 12 (.mov (o_ 2)) 10 true 0), (oG 13 (.bin false .leq (o_ 11) (o_ 12)) 10 true 0), (oP 14 (.pick (o_ 10) (o_ 13) (.const (.bool false))) 0), (oP 6 (.mov (o_ 14)) 0)]
def af_49 : AFun := ⟨15, [.inl 6], (.seq (.region [(oP 6 (.mov (.const (.bool false))) 0)] 0)
 (.seq (.region rg_49_0 0)
 .ret))⟩
def rg_78_0 : List AOper := [(oP 24 (.faddr 2 (o_ 4)) 0), (oP 25 (.load none (o_ 24)) 0), (oP 26 (.load none (o_ 7)) 0), (oP 27 (.iaddr 1 (o_ 25) (o_ 26)) 0), (oP 28 (.load none (o_ 27)) 0), (oP 29 (.bin false .eql (o_ 28) (oc 0)) 0), (oP 30 (.mov (o_ 29)) 0), (oG 31 (.mov (o_ 1)) 30 false 0), (oG 32 (.mov (o_ 11)) 30 false 0), (oG 33 (.call 103 [(o_ 31), (o_ 32)]) 30 false 0), (oP 34 (.pick (o_ 30) (.const (.bool true)) (o_ 33)) 1), (oP 23 (.mov (o_ 34)) 1)]
def af_78 : AFun := ⟨35, [.inl 8], (.seq (.region [(oP 4 (.box 4 (o_ 0)) 0), (oP 6 (.box 1 (o_ 2)) 1), (oP 7 (.box 1 (o_ 3)) 2), (oP 8 (.mov (.const (.int .u8 0))) 3)] 3)
 (.seq (.region [(oP 12 (.mkFn 100 [] [(o_ 6), (o_ 7)]) 0), (oP 9 (.mov (o_ 12)) 0)] 0)
 (.seq (.region [(oP 13 (.mkFn 101 [] [(o_ 6), (o_ 7)]) 0), (oP 10 (.mov (o_ 13)) 0)] 0)
 (.seq (.region [(oP 14 (.mkFn 102 [] [(o_ 6), (o_ 4), (o_ 7)]) 0), (oP 11 (.mov (o_ 14)) 0)] 0)
 (.seq (.block 0 (.seq (.region [(oP 16 (.mov (o_ 1)) 0), (oP 17 (.mov (o_ 9)) 0), (oP 18 (.call 103 [(o_ 16), (o_ 17)]) 0), (oP 15 (.mov (o_ 18)) 1)] 1)
 (.cond (o_ 15)
 (.seq (.region [(oP 8 (.mov (.const (.int .u8 1))) 0)] 0)
 .ret)
 (.seq (.region [(oP 20 (.mov (o_ 1)) 0), (oP 21 (.mov (o_ 10)) 0), (oP 22 (.call 103 [(o_ 20), (o_ 21)]) 0), (oP 19 (.mov (o_ 22)) 1)] 1)
 (.cond (o_ 19)
 (.seq (.region [(oP 8 (.mov (.const (.int .u8 2))) 0)] 0)
 .ret)
 (.seq (.region rg_78_0 1)
 (.cond (o_ 23)
 (.seq (.region [(oP 8 (.mov (.const (.int .u8 3))) 0)] 0)
 .ret)
 .skip)))))))
 (.seq (.region [(oP 8 (.mov (.const (.int .u8 0))) 0)] 0)
 .ret))))))⟩
def rg_57_0 : List AOper := [(oP 33 (.mov (o_ 9)) 0), (oP 34 (.mov (o_ 10)) 0), ⟨(some 35), .load (some 7) (o_ 11), none, 0, [1, 2], false, []⟩, (oP 36 (.mov (o_ 2)) 1), (oP 37 (.mov (o_ 10)) 1), ⟨(some 38), .iaddr 1 (o_ 36) (o_ 37), none, 1, [0], false, []⟩, ⟨(some 39), .load none (o_ 38), none, 2, [0], false, []⟩, (oP 40 (.build [(.val (.int .i64 0)), (.val (.int .i64 0)), (.val (.int .i64 0)), (.val (.int .i64 0)), (.val (.int .i64 0)), (.val (.int .i64 0)), (.val (.int .i64 0)), (.val (.int .i64 0))] [(0, 7, (o_ 35)), (7, 1, (o_ 39))]) 3), (oP 41 (.iaddr 8 (o_ 33) (o_ 34)) 3), ⟨none, .store 8 (o_ 41) (o_ 40), none, 4, [], true, []⟩]
def lp_57_1 : ACode := (.seq (.region [(oP 29 (.bin false .lss (o_ 28) (o_ 27)) 0)] 0)
 (.seq (.cond (o_ 29)
 .skip
 (.exit 0))
 (.seq (.block 1 (.seq (.region [(oP 30 (.mov (o_ 28)) 0), (oP 31 (.iaddr 7 (o_ 26) (o_ 28)) 0), (oP 32 (.load (some 7) (o_ 31)) 0), (oP 11 (.zero [(.val (.int .i64 0)), (.val (.int .i64 0)), (.val (.int .i64 0)), (.val (.int .i64 0)), (.val (.int .i64 0)), (.val (.int .i64 0)), (.val (.int .i64 0))]) 0), (oP 10 (.mov (o_ 30)) 1), ⟨none, .store 7 (o_ 11) (o_ 32), none, 1, [], true, []⟩] 1)
 (.region rg_57_0 5)))
 (.region [(oP 42 (.bin false .add (o_ 28) (oc 1)) 0), (oP 28 (.mov (o_ 42)) 0)] 0))))
def rs_57_2 : ACode := (.seq (.region [(oP 43 (.mov (o_ 9)) 0), (oP 6 (.mov (o_ 43)) 0), (oP 7 (.mov (oc 0)) 0)] 0)
 .ret)
def af_57 : AFun := ⟨44, [.inl 6, .inl 7], (.seq (.region [(oP 3 (.box 4 (o_ 0)) 0), (oP 6 (.mov (.const (.slice none 0 0))) 1), (oP 7 (.mov (oc 0)) 1)] 1)
 (.seq (.seq (.region [(oP 12 (.load (some 4) (o_ 3)) 0), (oP 13 (.mov (o_ 1)) 0), (oP 14 (.call 18 [(o_ 12), (o_ 13)]) 0), (oP 8 (.mov (o_ 14)) 1)] 1)
 (.seq (.region [(oP 15 (.mov (o_ 8)) 0), (oP 16 (.bin false .neq (o_ 15) (oc 0)) 0)] 0)
 (.cond (o_ 16)
 (.seq (.region [(oP 17 (.mov (o_ 8)) 0), (oP 6 (.mov (.const (.slice none 0 0))) 0), (oP 7 (.mov (o_ 17)) 0)] 0)
 .ret)
 .skip)))
 (.seq (.seq (.region [(oP 18 (.mov (o_ 2)) 0), (oP 19 (.len false (o_ 18)) 0), (oP 20 (.mov (o_ 1)) 0), (oP 21 (.len false (o_ 20)) 0), (oP 22 (.bin false .neq (o_ 19) (o_ 21)) 0)] 0)
 (.cond (o_ 22)
 (.seq (.region [(oP 6 (.mov (.const (.slice none 0 0))) 0), (oP 7 (.mov (oc 5)) 0)] 0)
 .ret)
 .skip))
 (.seq (.region [(oP 23 (.mov (o_ 1)) 0), (oP 24 (.len false (o_ 23)) 0), (oP 25 (.mkSlice 8 64 [(.val (.int .i64 0)), (.val (.int .i64 0)), (.val (.int .i64 0)), (.val (.int .i64 0)), (.val (.int .i64 0)), (.val (.int .i64 0)), (.val (.int .i64 0)), (.val (.int .i64 0))] (o_ 24) (o_ 24)) 0), (oP 9 (.mov (o_ 25)) 1)] 1)
 (.seq (.seq (.region [(oP 26 (.mov (o_ 1)) 0), (oP 27 (.len false (o_ 26)) 0), (oP 28 (.mov (oc 0)) 0)] 0)
 (.block 0 (.loop lp_57_1)))
 rs_57_2)))))⟩
def af_71 : AFun := ⟨3, [.inl 2], (.seq (.region [(oP 1 (.box 8 (o_ 0)) 0), (oP 2 (.mov (.const (.bool false))) 1)] 1)
 (.seq (.region [(oP 2 (.mov (.const (.bool true))) 0)] 0)
 .ret))⟩
def lp_72_0 : ACode := (.seq (.region [(oP 25 (.bin false .lss (o_ 24) (o_ 23)) 0)] 0)
 (.seq (.cond (o_ 25)
 .skip
 (.exit 0))
 (.seq (.block 1 (.seq (.region [(oP 26 (.mov (o_ 24)) 0), (oP 27 (.iaddr 8 (o_ 22) (o_ 24)) 0), (oP 28 (.load (some 8) (o_ 27)) 0), (oP 13 (.zero [(.val (.int .i64 0)), (.val (.int .i64 0)), (.val (.int .i64 0)), (.val (.int .i64 0)), (.val (.int .i64 0)), (.val (.int .i64 0)), (.val (.int .i64 0)), (.val (.int .i64 0))]) 0), (oP 12 (.mov (o_ 26)) 1), ⟨none, .store 8 (o_ 13) (o_ 28), none, 1, [], true, []⟩] 1)
 (.seq (.region [(oP 29 (.mov (o_ 2)) 0), (oP 30 (.load (some 8) (o_ 13)) 0), (oP 31 (.callv (o_ 29) [(o_ 30)]) 0)] 1)
 (.cond (o_ 31)
 (.region [(oP 32 (.faddr 5 (o_ 11)) 0), (oP 33 (.load none (o_ 32)) 0), (oP 34 (.mov (o_ 12)) 0), (oP 35 (.bslice 1 1 [(.val (.int .i64 0))] [(0, (o_ 34))]) 0), (oP 36 (.append 1 (o_ 33) (o_ 35)) 1), (oP 37 (.faddr 5 (o_ 11)) 2), ⟨none, .store 1 (o_ 37) (o_ 36), none, 2, [], true, []⟩] 2)
 .skip))))
 (.region [(oP 38 (.bin false .add (o_ 24) (oc 1)) 0), (oP 24 (.mov (o_ 38)) 0)] 0))))
def rg_72_1 : List AOper := [(oP 47 (.load (some 4) (o_ 4)) 0), (oP 48 (.mov (o_ 14)) 0), (oP 49 (.call 91 [(o_ 47), (o_ 48)]) 0), (oP 50 (.un .not (o_ 49)) 1), (oP 51 (.mov (o_ 50)) 1), (oG 52 (.mov (o_ 14)) 51 false 1), (oG 53 (.mov (o_ 3)) 51 false 1), (oG 54 (.call 97 [(o_ 11), (o_ 52), (o_ 53)]) 51 false 1), (oG 55 (.un .not (o_ 54)) 51 false 2), (oP 56 (.pick (o_ 51) (.const (.bool true)) (o_ 55)) 2)]
def lp_72_2 : ACode := (.seq (.region [(oP 70 (.bin false .lss (o_ 69) (o_ 68)) 0)] 0)
 (.seq (.cond (o_ 70)
 .skip
 (.exit 2))
 (.seq (.block 3 (.seq (.region [(oP 71 (.mov (o_ 69)) 0), (oP 72 (.iaddr 8 (o_ 67) (o_ 69)) 0), (oP 73 (.load (some 8) (o_ 72)) 0), (oP 17 (.zero [(.val (.int .i64 0)), (.val (.int .i64 0)), (.val (.int .i64 0)), (.val (.int .i64 0)), (.val (.int .i64 0)), (.val (.int .i64 0)), (.val (.int .i64 0)), (.val (.int .i64 0))]) 0), (oP 16 (.mov (o_ 71)) 1), ⟨none, .store 8 (o_ 17) (o_ 73), none, 1, [], true, []⟩] 1)
 (.region [(oP 74 (.mov (o_ 15)) 0), (oP 75 (.mov (o_ 16)) 0), (oP 76 (.faddr 7 (o_ 17)) 0), (oP 77 (.load none (o_ 76)) 0), (oP 78 (.iaddr 1 (o_ 74) (o_ 75)) 0), ⟨none, .store 1 (o_ 78) (o_ 77), none, 0, [], true, []⟩] 0)))
 (.region [(oP 79 (.bin false .add (o_ 69) (oc 1)) 0), (oP 69 (.mov (o_ 79)) 0)] 0))))
def rs_72_3 : ACode := (.seq (.region [(oP 80 (.mov (o_ 15)) 0), (oP 81 (.faddr 10 (o_ 11)) 0), (oP 82 (.load none (o_ 81)) 1), (oP 8 (.mov (o_ 80)) 2), (oP 9 (.mov (o_ 82)) 2), (oP 10 (.mov (oc 0)) 2)] 2)
 .ret)
def rs_72_4 : ACode := (.seq (.seq (.region [(oP 39 (.faddr 5 (o_ 11)) 0), (oP 40 (.load none (o_ 39)) 0), (oP 41 (.len false (o_ 40)) 0), (oP 42 (.bin false .gtr (o_ 41) (oc 4)) 0)] 0)
 (.cond (o_ 42)
 (.seq (.region [(oP 8 (.mov (.const (.slice none 0 0))) 0), (oP 9 (.mov (oc 0)) 0), (oP 10 (.mov (oc 5)) 0)] 0)
 .ret)
 .skip))
 (.seq (.region [(oP 43 (.mov (o_ 1)) 0), (oP 44 (.call 95 [(o_ 43)]) 0), (oP 45 (.mov (o_ 2)) 1), (oP 46 (.call 96 [(o_ 44), (o_ 45)]) 1), (oP 14 (.mov (o_ 46)) 2)] 2)
 (.seq (.seq (.region rg_72_1 2)
 (.cond (o_ 56)
 (.seq (.region [(oP 8 (.mov (.const (.slice none 0 0))) 0), (oP 9 (.mov (oc 0)) 0), (oP 10 (.mov (oc 101)) 0)] 0)
 .ret)
 .skip))
 (.seq (.region [(oP 57 (.mov (o_ 14)) 0), (oP 58 (.call 60 [(o_ 57)]) 0), (oP 59 (.call 98 [(o_ 11), (oc 0), (o_ 58)]) 1)] 2)
 (.seq (.seq (.region [(oP 60 (.faddr 9 (o_ 11)) 0), (oP 61 (.load none (o_ 60)) 0), (oP 62 (.eqNil 0 .eql (o_ 61) (.const (.slice none 0 0))) 0)] 0)
 (.cond (o_ 62)
 (.seq (.region [(oP 8 (.mov (.const (.slice none 0 0))) 0), (oP 9 (.mov (oc 0)) 0), (oP 10 (.mov (oc 101)) 0)] 0)
 .ret)
 .skip))
 (.seq (.region [(oP 63 (.mov (o_ 1)) 0), (oP 64 (.len false (o_ 63)) 0), (oP 65 (.mkSlice 1 8 [(.val (.int .i64 0))] (o_ 64) (o_ 64)) 0), (oP 15 (.mov (o_ 65)) 1)] 1)
 (.seq (.seq (.region [(oP 66 (.faddr 9 (o_ 11)) 0), (oP 67 (.load none (o_ 66)) 0), (oP 68 (.len false (o_ 67)) 0), (oP 69 (.mov (oc 0)) 0)] 0)
 (.block 2 (.loop lp_72_2)))
 rs_72_3)))))))
def af_72 : AFun := ⟨83, [.inl 8, .inl 9, .inl 10], (.seq (.region [(oP 4 (.box 4 (o_ 0)) 0), (oP 8 (.mov (.const (.slice none 0 0))) 1), (oP 9 (.mov (oc 0)) 1), (oP 10 (.mov (oc 0)) 1)] 1)
 (.seq (.region [⟨(some 18), .load (some 4) (o_ 4), none, 0, [1, 2], false, []⟩, (oP 19 (.mov (o_ 1)) 1), ⟨(some 20), .call 95 [(o_ 19)], none, 1, [0, 2], false, []⟩, (oP 21 (.build [(.val (.int .i64 0)), (.val (.int .i64 0)), (.val (.slice none 0 0)), (.val (.slice none 0 0)), (.val (.slice none 0 0)), (.val (.slice none 0 0)), (.val (.slice none 0 0)), (.val (.slice none 0 0)), (.val (.slice none 0 0)), (.val (.slice none 0 0)), (.val (.int .i64 0))] [(0, 4, (o_ 18)), (4, 1, (o_ 20))]) 2), ⟨(some 11), .zero [(.val (.int .i64 0)), (.val (.int .i64 0)), (.val (.slice none 0 0)), (.val (.slice none 0 0)), (.val (.slice none 0 0)), (.val (.slice none 0 0)), (.val (.slice none 0 0)), (.val (.slice none 0 0)), (.val (.slice none 0 0)), (.val (.slice none 0 0)), (.val (.int .i64 0))], none, 2, [0, 1], false, []⟩, ⟨none, .store 11 (o_ 11) (o_ 21), none, 3, [], true, []⟩] 4)
 (.seq (.seq (.region [(oP 22 (.mov (o_ 1)) 0), (oP 23 (.len false (o_ 22)) 0), (oP 24 (.mov (oc 0)) 0)] 0)
 (.block 0 (.loop lp_72_0)))
 rs_72_4)))⟩
def lp_58_0 : ACode := (.seq (.region [(oP 22 (.bin false .lss (o_ 21) (o_ 20)) 0)] 0)
 (.seq (.cond (o_ 22)
 .skip
 (.exit 0))
 (.seq (.block 1 (.seq (.region [(oP 23 (.iaddr 1 (o_ 19) (o_ 21)) 0), (oP 24 (.load none (o_ 23)) 0), (oP 9 (.mov (o_ 24)) 0)] 0)
 (.seq (.region [(oP 25 (.mov (o_ 9)) 0), (oP 26 (.callv (o_ 25) []) 0), (oP 10 (.zero [(.val (.int .u8 0)), (.val (.int .i64 0)), (.val (.int .i64 0)), (.val (.int .i64 0))]) 1), ⟨none, .store 4 (o_ 10) (o_ 26), none, 2, [], true, []⟩] 2)
 (.seq (.region [(oP 27 (.faddr 0 (o_ 10)) 0), (oP 28 (.load none (o_ 27)) 0), (oP 29 (.bin false .neq (o_ 28) (.const (.int .u8 0))) 0)] 0)
 (.cond (o_ 29)
 (.seq (.region [(oP 30 (.load (some 4) (o_ 10)) 0), ⟨none, .store 4 (o_ 4) (o_ 30), none, 0, [], true, []⟩] 0)
 .ret)
 .skip)))))
 (.region [(oP 31 (.bin false .add (o_ 21) (oc 1)) 0), (oP 21 (.mov (o_ 31)) 0)] 0))))
def rs_58_1 : ACode := (.seq (.region [(oP 32 (.build [(.val (.int .u8 0)), (.val (.int .i64 0)), (.val (.int .i64 0)), (.val (.int .i64 0))] []) 0), ⟨none, .store 4 (o_ 4) (o_ 32), none, 0, [], true, []⟩] 0)
 .ret)
def af_58 : AFun := ⟨33, [.inr (4, (some 4))], (.seq (.region [(oP 2 (.box 4 (o_ 0)) 0), (oP 3 (.box 1 (o_ 1)) 1), (oP 4 (.zero [(.val (.int .u8 0)), (.val (.int .i64 0)), (.val (.int .i64 0)), (.val (.int .i64 0))]) 2)] 3)
 (.seq (.region [(oP 11 (.mkFn 80 [] [(o_ 2)]) 0), (oP 5 (.zero [(.val .nilFunc)]) 0), ⟨none, .store 1 (o_ 5) (o_ 11), none, 1, [], true, []⟩] 1)
 (.seq (.region [(oP 12 (.mkFn 81 [] [(o_ 2)]) 0), (oP 6 (.zero [(.val .nilFunc)]) 0), ⟨none, .store 1 (o_ 6) (o_ 12), none, 1, [], true, []⟩] 1)
 (.seq (.region [(oP 13 (.mkFn 82 [] [(o_ 3)]) 0), (oP 14 (.mkFn 84 [] [(o_ 3), (o_ 5)]) 0), (oP 15 (.mkFn 86 [] [(o_ 3), (o_ 6)]) 0), (oP 16 (.mkFn 87 [] [(o_ 2), (o_ 3)]) 0), (oP 17 (.mkFn 89 [] [(o_ 2), (o_ 3)]) 0), (oP 18 (.bslice 1 5 [(.val .nilFunc)] [(0, (o_ 13)), (1, (o_ 14)), (2, (o_ 15)), (3, (o_ 16)), (4, (o_ 17))]) 0), (oP 7 (.mov (o_ 18)) 1)] 1)
 (.seq (.seq (.region [(oP 19 (.mov (o_ 7)) 0), (oP 20 (.len false (o_ 19)) 0), (oP 21 (.mov (oc 0)) 0)] 0)
 (.block 0 (.loop lp_58_0)))
 rs_58_1)))))⟩
def af_91 : AFun := ⟨10, [.inl 4], (.seq (.region [(oP 2 (.box 4 (o_ 0)) 0), (oP 4 (.mov (.const (.bool false))) 1)] 1)
 (.seq (.region [(oP 5 (.load (some 4) (o_ 2)) 0), (oP 6 (.mov (o_ 1)) 0), (oP 7 (.call 58 [(o_ 5), (o_ 6)]) 0), (oP 8 (.field none 0 (o_ 7)) 1), (oP 9 (.bin false .eql (o_ 8) (.const (.int .u8 0))) 1), (oP 4 (.mov (o_ 9)) 1)] 1)
 .ret))⟩
def rg_100_0 : List AOper := [⟨(some 5), .faddr 0 (o_ 3), none, 0, [3], false, []⟩, ⟨(some 6), .faddr 0 (o_ 5), none, 1, [3], false, []⟩, ⟨(some 7), .load none (o_ 6), none, 2, [3], false, []⟩, ⟨(some 8), .load none (o_ 1), none, 3, [0, 1, 2], false, []⟩, (oP 9 (.bin false .eql (o_ 7) (o_ 8)) 4), (oP 10 (.mov (o_ 9)) 4), ⟨(some 11), .faddr 7 (o_ 3), (some ((some 10), true)), 4, [6, 7, 8], false, []⟩, ⟨(some 12), .load none (o_ 11), (some ((some 10), true)), 5, [6, 7, 8], false, []⟩, ⟨(some 13), .load none (o_ 2), (some ((some 10), true)), 6, [4, 5, 7, 8], false, []⟩, ⟨(some 14), .load (some 8) (o_ 3), (some ((some 10), true)), 7, [4, 5, 6], false, []⟩, ⟨(some 15), .call 99 [(o_ 14)], (some ((some 10), true)), 8, [4, 5, 6], false, []⟩, (oG 16 (.bin false .sub (o_ 15) (oc 1)) 10 true 9), (oG 17 (.call 49 [(o_ 12), (o_ 13), (o_ 16)]) 10 true 9), (oP 18 (.pick (o_ 10) (o_ 17) (.const (.bool false))) 10), (oP 4 (.mov (o_ 18)) 10)]
def af_100 : AFun := ⟨19, [.inl 4], (.seq (.region [(oP 3 (.box 8 (o_ 0)) 0), (oP 4 (.mov (.const (.bool false))) 1)] 1)
 (.seq (.region rg_100_0 10)
 .ret))⟩
def rg_101_0 : List AOper := [⟨(some 5), .faddr 0 (o_ 3), none, 0, [3], false, []⟩, ⟨(some 6), .faddr 0 (o_ 5), none, 1, [3], false, []⟩, ⟨(some 7), .load none (o_ 6), none, 2, [3], false, []⟩, ⟨(some 8), .load none (o_ 1), none, 3, [0, 1, 2], false, []⟩, (oP 9 (.bin false .eql (o_ 7) (o_ 8)) 4), (oP 10 (.mov (o_ 9)) 4), ⟨(some 11), .load (some 8) (o_ 3), (some ((some 10), true)), 4, [6, 7, 8], false, []⟩, ⟨(some 12), .call 65 [(o_ 11)], (some ((some 10), true)), 5, [6, 7, 8], false, []⟩, ⟨(some 13), .load none (o_ 2), (some ((some 10), true)), 6, [4, 5, 7, 8], false, []⟩, ⟨(some 14), .faddr 7 (o_ 3), (some ((some 10), true)), 7, [4, 5, 6], false, []⟩, ⟨(some 15), .load none (o_ 14), (some ((some 10), true)), 8, [4, 5, 6], false, []⟩, (oG 16 (.bin false .sub (o_ 15) (oc 1)) 10 true 9), (oG 17 (.call 49 [(o_ 12), (o_ 13), (o_ 16)]) 10 true 9), (oP 18 (.pick (o_ 10) (o_ 17) (.const (.bool false))) 10), (oP 4 (.mov (o_ 18)) 10)]
def af_101 : AFun := ⟨19, [.inl 4], (.seq (.region [(oP 3 (.box 8 (o_ 0)) 0), (oP 4 (.mov (.const (.bool false))) 1)] 1)
 (.seq (.region rg_101_0 10)
 .ret))⟩
def rg_102_0 : List AOper := [⟨(some 6), .faddr 0 (o_ 4), none, 0, [3], false, []⟩, ⟨(some 7), .faddr 0 (o_ 6), none, 1, [3], false, []⟩, ⟨(some 8), .load none (o_ 7), none, 2, [3], false, []⟩, ⟨(some 9), .load none (o_ 1), none, 3, [0, 1, 2], false, []⟩, (oP 10 (.bin false .neq (o_ 8) (o_ 9)) 4), (oP 11 (.mov (o_ 10)) 4), ⟨(some 12), .faddr 7 (o_ 4), (some ((some 11), true)), 4, [6, 7, 8, 9, 10, 11, 12], false, []⟩, ⟨(some 13), .load none (o_ 12), (some ((some 11), true)), 5, [6, 7, 8, 9, 10, 11, 12], false, []⟩, ⟨(some 14), .faddr 1 (o_ 2), (some ((some 11), true)), 6, [4, 5, 8, 9, 10, 11, 12], false, []⟩, ⟨(some 15), .load none (o_ 14), (some ((some 11), true)), 7, [4, 5, 8, 9, 10, 11, 12], false, []⟩, (oG 16 (.bin false .sub (o_ 13) (o_ 15)) 11 true 8), ⟨(some 17), .load none (o_ 3), (some ((some 11), true)), 8, [4, 5, 6, 7, 9, 10, 11, 12], false, []⟩, ⟨(some 18), .load (some 8) (o_ 4), (some ((some 11), true)), 9, [4, 5, 6, 7, 8, 11, 12], false, []⟩, ⟨(some 19), .call 99 [(o_ 18)], (some ((some 11), true)), 10, [4, 5, 6, 7, 8, 11, 12], false, []⟩, ⟨(some 20), .faddr 1 (o_ 2), (some ((some 11), true)), 11, [4, 5, 6, 7, 8, 9, 10], false, []⟩, ⟨(some 21), .load none (o_ 20), (some ((some 11), true)), 12, [4, 5, 6, 7, 8, 9, 10], false, []⟩, (oG 22 (.bin false .add (o_ 19) (o_ 21)) 11 true 13), (oG 23 (.bin false .sub (o_ 22) (oc 1)) 11 true 13), (oG 24 (.call 49 [(o_ 16), (o_ 17), (o_ 23)]) 11 true 13), (oP 25 (.pick (o_ 11) (o_ 24) (.const (.bool false))) 14), (oP 5 (.mov (o_ 25)) 14)]
def af_102 : AFun := ⟨26, [.inl 5], (.seq (.region [(oP 4 (.box 8 (o_ 0)) 0), (oP 5 (.mov (.const (.bool false))) 1)] 1)
 (.seq (.region rg_102_0 14)
 .ret))⟩
def af_103 : AFun := ⟨9, [.inl 4], (.seq (.region [(oP 4 (.mov (.const (.bool false))) 0)] 0)
 (.seq (.region [(oP 5 (.mov (o_ 0)) 0), (oP 6 (.mov (o_ 1)) 0), (oP 7 (.call 104 [(o_ 5), (o_ 6)]) 0), (oP 8 (.bin false .geq (o_ 7) (oc 0)) 1), (oP 4 (.mov (o_ 8)) 1)] 1)
 .ret))⟩
def rg_18_0 : List AOper := [(oP 13 (.mov (o_ 1)) 0), (oP 14 (.len false (o_ 13)) 0), (oP 15 (.bin false .leq (o_ 14) (oc 16)) 0), (oP 16 (.mov (o_ 15)) 0), (oG 17 (.mov (o_ 1)) 16 true 0), (oG 18 (.mov (o_ 6)) 16 true 0), (oG 19 (.call 55 [(o_ 17), (o_ 18)]) 16 true 0), (oG 20 (.un .not (o_ 19)) 16 true 1), (oP 21 (.pick (o_ 16) (o_ 20) (.const (.bool false))) 1), (oP 22 (.call 51 [(o_ 21)]) 1), (oP 4 (.mov (o_ 22)) 2)]
def af_18 : AFun := ⟨23, [.inl 4], (.seq (.region [(oP 2 (.box 4 (o_ 0)) 0), (oP 4 (.mov (oc 0)) 1)] 1)
 (.seq (.seq (.region [(oP 7 (.load (some 4) (o_ 2)) 0), (oP 8 (.call 17 [(o_ 7)]) 0), (oP 5 (.mov (o_ 8)) 1)] 1)
 (.seq (.region [(oP 9 (.mov (o_ 5)) 0), (oP 10 (.bin false .neq (o_ 9) (oc 0)) 0)] 0)
 (.cond (o_ 10)
 (.seq (.region [(oP 11 (.mov (o_ 5)) 0), (oP 4 (.mov (o_ 11)) 0)] 0)
 .ret)
 .skip)))
 (.seq (.region [(oP 12 (.mkFn 53 [] [(o_ 2)]) 0), (oP 6 (.mov (o_ 12)) 0)] 0)
 (.seq (.region rg_18_0 2)
 .ret))))⟩
def af_95 : AFun := ⟨8, [.inl 2], (.seq (.region [(oP 2 (.mov (.const (.slice none 0 0))) 0)] 0)
 (.seq (.seq (.region [(oP 3 (.mov (o_ 0)) 0), (oP 4 (.eqNil 0 .eql (o_ 3) (.const (.slice none 0 0))) 0)] 0)
 (.cond (o_ 4)
 (.seq (.region [(oP 2 (.mov (.const (.slice none 0 0))) 0)] 0)
 .ret)
 .skip))
 (.seq (.region [(oP 5 (.bslice 8 0 [(.val (.int .i64 0)), (.val (.int .i64 0)), (.val (.int .i64 0)), (.val (.int .i64 0)), (.val (.int .i64 0)), (.val (.int .i64 0)), (.val (.int .i64 0)), (.val (.int .i64 0))] []) 0), (oP 6 (.mov (o_ 0)) 1), (oP 7 (.append 8 (o_ 5) (o_ 6)) 1), (oP 2 (.mov (o_ 7)) 2)] 2)
 .ret)))⟩
def lp_96_0 : ACode := (.seq (.seq (.region [(oP 16 (.mov (o_ 6)) 0), (oP 17 (.mov (o_ 0)) 0), (oP 18 (.len false (o_ 17)) 0), (oP 19 (.bin false .lss (o_ 16) (o_ 18)) 0)] 0)
 (.cond (o_ 19)
 .skip
 (.exit 0)))
 (.seq (.block 1 (.seq (.region [(oP 22 (.mov (o_ 0)) 0), (oP 23 (.mov (o_ 6)) 0), (oP 24 (.iaddr 8 (o_ 22) (o_ 23)) 0), (oP 25 (.load (some 8) (o_ 24)) 0), (oP 7 (.zero [(.val (.int .i64 0)), (.val (.int .i64 0)), (.val (.int .i64 0)), (.val (.int .i64 0)), (.val (.int .i64 0)), (.val (.int .i64 0)), (.val (.int .i64 0)), (.val (.int .i64 0))]) 0), ⟨none, .store 8 (o_ 7) (o_ 25), none, 1, [], true, []⟩] 1)
 (.seq (.region [(oP 26 (.mov (o_ 1)) 0), (oP 27 (.load (some 8) (o_ 7)) 0), (oP 28 (.callv (o_ 26) [(o_ 27)]) 0), (oP 29 (.un .not (o_ 28)) 1)] 1)
 (.cond (o_ 29)
 (.seq (.region [(oP 30 (.mov (o_ 0)) 0), (oP 31 (.mov (o_ 5)) 0), (oP 32 (.load (some 8) (o_ 7)) 0), (oP 33 (.iaddr 8 (o_ 30) (o_ 31)) 0), ⟨none, .store 8 (o_ 33) (o_ 32), none, 0, [], true, []⟩] 0)
 (.region [(oP 34 (.mov (o_ 5)) 0), (oP 35 (.bin false .add (o_ 34) (oc 1)) 0), (oP 5 (.mov (o_ 35)) 0)] 0))
 .skip))))
 (.region [(oP 20 (.mov (o_ 6)) 0), (oP 21 (.bin false .add (o_ 20) (oc 1)) 0), (oP 6 (.mov (o_ 21)) 0)] 0)))
def rs_96_1 : ACode := (.seq (.region [(oP 36 (.mov (o_ 0)) 0), (oP 37 (.mov (o_ 5)) 0), (oP 38 (.slice 8 (o_ 36) (some (o_ 37)) none none) 0), ⟨none, .clear 8 [(.val (.int .i64 0)), (.val (.int .i64 0)), (.val (.int .i64 0)), (.val (.int .i64 0)), (.val (.int .i64 0)), (.val (.int .i64 0)), (.val (.int .i64 0)), (.val (.int .i64 0))] (o_ 38), none, 0, [], true, []⟩] 0)
 (.seq (.region [(oP 39 (.mov (o_ 0)) 0), (oP 40 (.mov (o_ 5)) 0), (oP 41 (.slice 8 (o_ 39) none (some (o_ 40)) none) 0), (oP 4 (.mov (o_ 41)) 0)] 0)
 .ret))
def af_96 : AFun := ⟨42, [.inl 4], (.seq (.region [(oP 4 (.mov (.const (.slice none 0 0))) 0)] 0)
 (.seq (.region [(oP 8 (.mov (o_ 0)) 0), (oP 9 (.mov (o_ 1)) 0), (oP 10 (.call 104 [(o_ 8), (o_ 9)]) 0), (oP 5 (.mov (o_ 10)) 1)] 1)
 (.seq (.seq (.region [(oP 11 (.mov (o_ 5)) 0), (oP 12 (.bin false .eql (o_ 11) (oc (-1))) 0)] 0)
 (.cond (o_ 12)
 (.seq (.region [(oP 13 (.mov (o_ 0)) 0), (oP 4 (.mov (o_ 13)) 0)] 0)
 .ret)
 .skip))
 (.seq (.seq (.region [(oP 14 (.mov (o_ 5)) 0), (oP 15 (.bin false .add (o_ 14) (oc 1)) 0), (oP 6 (.mov (o_ 15)) 0)] 0)
 (.block 0 (.loop lp_96_0)))
 rs_96_1))))⟩
def rg_97_0 : List AOper := [(oP 10 (.mov (o_ 0)) 0), (oP 11 (.mov (o_ 0)) 0), (oP 12 (.nilCheck (o_ 11)) 0), (oP 13 (.faddr 0 (o_ 12)) 0), (oP 14 (.load (some 4) (o_ 13)) 0), (oP 15 (.mov (o_ 1)) 0), (oP 16 (.call 61 [(o_ 14), (o_ 15)]) 0), (oP 17 (.nilCheck (o_ 10)) 1), (oP 18 (.faddr 8 (o_ 17)) 1), ⟨none, .store 1 (o_ 18) (o_ 16), none, 1, [], true, []⟩]
def rg_97_1 : List AOper := [(oP 19 (.mov (o_ 0)) 0), (oP 20 (.mov (o_ 0)) 0), (oP 21 (.nilCheck (o_ 20)) 0), (oP 22 (.faddr 5 (o_ 21)) 0), (oP 23 (.load none (o_ 22)) 0), (oP 24 (.len false (o_ 23)) 0), (oP 25 (.bin false .add (o_ 24) (oc 1)) 0), (oP 26 (.mkSlice 1 8 [(.val (.int .i64 0))] (o_ 25) (o_ 25)) 0), (oP 27 (.nilCheck (o_ 19)) 1), (oP 28 (.faddr 7 (o_ 27)) 1), ⟨none, .store 1 (o_ 28) (o_ 26), none, 1, [], true, []⟩]
def rg_97_2 : List AOper := [(oP 29 (.mov (o_ 0)) 0), (oP 30 (.mov (o_ 0)) 0), (oP 31 (.nilCheck (o_ 30)) 0), (oP 32 (.faddr 5 (o_ 31)) 0), (oP 33 (.load none (o_ 32)) 0), (oP 34 (.len false (o_ 33)) 0), (oP 35 (.mkSlice 1 24 [(.val (.slice none 0 0))] (o_ 34) (o_ 34)) 0), (oP 36 (.nilCheck (o_ 29)) 1), (oP 37 (.faddr 6 (o_ 36)) 1), ⟨none, .store 1 (o_ 37) (o_ 35), none, 1, [], true, []⟩]
def rg_97_3 : List AOper := [(oP 48 (.mov (o_ 0)) 0), ⟨(some 49), .nilCheck (o_ 48), none, 0, [3, 4, 5, 6, 7, 11], false, []⟩, ⟨(some 50), .faddr 4 (o_ 49), none, 1, [3, 4, 5, 6, 7, 11], false, []⟩, ⟨(some 51), .load none (o_ 50), none, 2, [3, 4, 5, 6, 7, 11], false, []⟩, (oP 52 (.mov (o_ 0)) 3), ⟨(some 53), .nilCheck (o_ 52), none, 3, [0, 1, 2, 11], false, []⟩, ⟨(some 54), .faddr 5 (o_ 53), none, 4, [0, 1, 2, 11], false, []⟩, ⟨(some 55), .load none (o_ 54), none, 5, [0, 1, 2, 11], false, []⟩, (oP 56 (.mov (o_ 7)) 6), ⟨(some 57), .iaddr 1 (o_ 55) (o_ 56), none, 6, [0, 1, 2, 11], false, []⟩, ⟨(some 58), .load none (o_ 57), none, 7, [0, 1, 2, 11], false, []⟩, ⟨(some 59), .iaddr 8 (o_ 51) (o_ 58), none, 8, [11], false, []⟩, ⟨(some 60), .faddr 0 (o_ 59), none, 9, [11], false, []⟩, ⟨(some 61), .load (some 7) (o_ 60), none, 10, [11], false, []⟩, ⟨(some 8), .zero [(.val (.int .i64 0)), (.val (.int .i64 0)), (.val (.int .i64 0)), (.val (.int .i64 0)), (.val (.int .i64 0)), (.val (.int .i64 0)), (.val (.int .i64 0))], none, 11, [0, 1, 2, 3, 4, 5, 6, 7, 8, 9, 10], false, []⟩, ⟨none, .store 7 (o_ 8) (o_ 61), none, 12, [], true, []⟩]
def rg_97_4 : List AOper := [(oP 63 (.mov (o_ 0)) 0), ⟨(some 64), .nilCheck (o_ 63), none, 0, [3, 4, 5, 6, 7, 8], false, []⟩, ⟨(some 65), .faddr 6 (o_ 64), none, 1, [3, 4, 5, 6, 7, 8], false, []⟩, ⟨(some 66), .load none (o_ 65), none, 2, [3, 4, 5, 6, 7, 8], false, []⟩, (oP 67 (.mov (o_ 7)) 3), (oP 68 (.mov (o_ 0)) 3), ⟨(some 69), .nilCheck (o_ 68), none, 3, [0, 1, 2, 6], false, []⟩, ⟨(some 70), .faddr 0 (o_ 69), none, 4, [0, 1, 2, 6], false, []⟩, ⟨(some 71), .load (some 4) (o_ 70), none, 5, [0, 1, 2, 6], false, []⟩, (oP 72 (.mov (o_ 1)) 6), ⟨(some 73), .load (some 7) (o_ 8), none, 6, [0, 1, 2, 3, 4, 5], false, []⟩, ⟨(some 74), .call 73 [(o_ 71), (o_ 72), (o_ 73)], none, 7, [0, 1, 2], false, []⟩, (oP 75 (.mov (o_ 9)) 8), ⟨(some 76), .call 111 [(o_ 74), (o_ 75)], none, 8, [0, 1, 2], false, []⟩, (oP 77 (.iaddr 1 (o_ 66) (o_ 67)) 9), ⟨none, .store 1 (o_ 77) (o_ 76), none, 10, [], true, []⟩]
def rg_97_5 : List AOper := [(oP 78 (.mov (o_ 0)) 0), (oP 79 (.nilCheck (o_ 78)) 0), (oP 80 (.faddr 6 (o_ 79)) 0), (oP 81 (.load none (o_ 80)) 0), (oP 82 (.mov (o_ 7)) 0), (oP 83 (.iaddr 1 (o_ 81) (o_ 82)) 0), (oP 84 (.load none (o_ 83)) 0), (oP 85 (.len false (o_ 84)) 0), (oP 86 (.bin false .eql (o_ 85) (oc 0)) 0)]
def rg_97_6 : List AOper := [(oP 87 (.mov (o_ 0)) 0), ⟨(some 88), .nilCheck (o_ 87), none, 0, [3, 4, 5, 6, 7, 8, 9, 10, 11, 12, 13, 14, 15, 16], false, []⟩, ⟨(some 89), .faddr 7 (o_ 88), none, 1, [3, 4, 5, 6, 7, 8, 9, 10, 11, 12, 13, 14, 15, 16], false, []⟩, ⟨(some 90), .load none (o_ 89), none, 2, [3, 4, 5, 6, 7, 8, 9, 10, 11, 12, 13, 14, 15, 16], false, []⟩, (oP 91 (.mov (o_ 7)) 3), (oP 92 (.mov (o_ 0)) 3), ⟨(some 93), .nilCheck (o_ 92), none, 3, [0, 1, 2, 8, 9, 10, 11, 12, 13, 14, 15, 16], false, []⟩, ⟨(some 94), .faddr 7 (o_ 93), none, 4, [0, 1, 2, 8, 9, 10, 11, 12, 13, 14, 15, 16], false, []⟩, ⟨(some 95), .load none (o_ 94), none, 5, [0, 1, 2, 8, 9, 10, 11, 12, 13, 14, 15, 16], false, []⟩, (oP 96 (.mov (o_ 7)) 6), (oP 97 (.bin false .add (o_ 96) (oc 1)) 6), ⟨(some 98), .iaddr 1 (o_ 95) (o_ 97), none, 6, [0, 1, 2, 8, 9, 10, 11, 12, 13, 14, 15, 16], false, []⟩, ⟨(some 99), .load none (o_ 98), none, 7, [0, 1, 2, 8, 9, 10, 11, 12, 13, 14, 15, 16], false, []⟩, ⟨(some 100), .load (some 7) (o_ 8), none, 8, [0, 1, 2, 3, 4, 5, 6, 7, 9, 10, 11, 12, 13, 14, 15], false, []⟩, (oP 101 (.mov (o_ 0)) 9), ⟨(some 102), .nilCheck (o_ 101), none, 9, [0, 1, 2, 3, 4, 5, 6, 7, 8], false, []⟩, ⟨(some 103), .faddr 6 (o_ 102), none, 10, [0, 1, 2, 3, 4, 5, 6, 7, 8], false, []⟩, ⟨(some 104), .load none (o_ 103), none, 11, [0, 1, 2, 3, 4, 5, 6, 7, 8], false, []⟩, (oP 105 (.mov (o_ 7)) 12), ⟨(some 106), .iaddr 1 (o_ 104) (o_ 105), none, 12, [0, 1, 2, 3, 4, 5, 6, 7, 8], false, []⟩, ⟨(some 107), .load none (o_ 106), none, 13, [0, 1, 2, 3, 4, 5, 6, 7, 8], false, []⟩, ⟨(some 108), .iaddr 1 (o_ 107) (oc 0), none, 14, [0, 1, 2, 3, 4, 5, 6, 7, 8], false, []⟩, ⟨(some 109), .load none (o_ 108), none, 15, [0, 1, 2, 3, 4, 5, 6, 7, 8], false, []⟩, (oP 110 (.build [(.val (.int .i64 0)), (.val (.int .i64 0)), (.val (.int .i64 0)), (.val (.int .i64 0)), (.val (.int .i64 0)), (.val (.int .i64 0)), (.val (.int .i64 0)), (.val (.int .i64 0))] [(0, 7, (o_ 100)), (7, 1, (o_ 109))]) 16), ⟨(some 111), .call 74 [(o_ 110)], none, 16, [0, 1, 2, 3, 4, 5, 6, 7], false, []⟩, (oP 112 (.bin false .add (o_ 99) (o_ 111)) 17), (oP 113 (.iaddr 1 (o_ 90) (o_ 91)) 17), ⟨none, .store 1 (o_ 113) (o_ 112), none, 18, [], true, []⟩]
def lp_97_7 : ACode := (.seq (.seq (.region [(oP 44 (.mov (o_ 7)) 0), (oP 45 (.bin false .geq (o_ 44) (oc 0)) 0)] 0)
 (.cond (o_ 45)
 .skip
 (.exit 0)))
 (.seq (.block 1 (.seq (.region rg_97_3 13)
 (.seq (.region [(oP 62 (.mkFn 110 [] [(o_ 8), (o_ 5)]) 0), (oP 9 (.mov (o_ 62)) 0)] 0)
 (.seq (.region rg_97_4 11)
 (.seq (.seq (.region rg_97_5 0)
 (.cond (o_ 86)
 (.seq (.region [(oP 6 (.mov (.const (.bool false))) 0)] 0)
 .ret)
 .skip))
 (.region rg_97_6 19))))))
 (.region [(oP 46 (.mov (o_ 7)) 0), (oP 47 (.bin false .sub (o_ 46) (oc 1)) 0), (oP 7 (.mov (o_ 47)) 0)] 0)))
def rs_97_8 : ACode := (.seq (.region [(oP 6 (.mov (.const (.bool true))) 0)] 0)
 .ret)
def af_97 : AFun := ⟨114, [.inl 6], (.seq (.region [(oP 5 (.box 1 (o_ 2)) 0), (oP 6 (.mov (.const (.bool false))) 1)] 1)
 (.seq (.region rg_97_0 1)
 (.seq (.region rg_97_1 1)
 (.seq (.region rg_97_2 1)
 (.seq (.seq (.region [(oP 38 (.mov (o_ 0)) 0), (oP 39 (.nilCheck (o_ 38)) 0), (oP 40 (.faddr 5 (o_ 39)) 0), (oP 41 (.load none (o_ 40)) 0), (oP 42 (.len false (o_ 41)) 0), (oP 43 (.bin false .sub (o_ 42) (oc 1)) 0), (oP 7 (.mov (o_ 43)) 0)] 0)
 (.block 0 (.loop lp_97_7)))
 rs_97_8)))))⟩
def lp_60_0 : ACode := (.seq (.region [(oP 9 (.bin false .lss (o_ 8) (o_ 7)) 0)] 0)
 (.seq (.cond (o_ 9)
 .skip
 (.exit 0))
 (.seq (.block 1 (.seq (.region [(oP 10 (.iaddr 8 (o_ 6) (o_ 8)) 0), (oP 11 (.load (some 8) (o_ 10)) 0), (oP 5 (.zero [(.val (.int .i64 0)), (.val (.int .i64 0)), (.val (.int .i64 0)), (.val (.int .i64 0)), (.val (.int .i64 0)), (.val (.int .i64 0)), (.val (.int .i64 0)), (.val (.int .i64 0))]) 0), ⟨none, .store 8 (o_ 5) (o_ 11), none, 1, [], true, []⟩] 1)
 (.region [(oP 12 (.mov (o_ 3)) 0), (oP 13 (.load (some 8) (o_ 5)) 0), (oP 14 (.call 74 [(o_ 13)]) 0), (oP 15 (.bin false .add (o_ 12) (o_ 14)) 1), (oP 3 (.mov (o_ 15)) 1)] 1)))
 (.region [(oP 16 (.bin false .add (o_ 8) (oc 1)) 0), (oP 8 (.mov (o_ 16)) 0)] 0))))
def rs_60_1 : ACode := (.seq (.region [(oP 17 (.mov (o_ 3)) 0), (oP 2 (.mov (o_ 17)) 0)] 0)
 .ret)
def af_60 : AFun := ⟨18, [.inl 2], (.seq (.region [(oP 2 (.mov (oc 0)) 0)] 0)
 (.seq (.region [(oP 3 (.mov (oc 0)) 0)] 0)
 (.seq (.seq (.region [(oP 6 (.mov (o_ 0)) 0), (oP 7 (.len false (o_ 6)) 0), (oP 8 (.mov (oc 0)) 0)] 0)
 (.block 0 (.loop lp_60_0)))
 rs_60_1)))⟩
def rg_98_0 : List AOper := [(oP 17 (.mov (o_ 0)) 0), (oP 18 (.mov (o_ 0)) 0), (oP 19 (.mov (o_ 0)) 0), (oP 20 (.nilCheck (o_ 19)) 0), (oP 21 (.faddr 4 (o_ 20)) 0), (oP 22 (.load none (o_ 21)) 0), (oP 23 (.len false (o_ 22)) 0), (oP 24 (.mkSlice 8 64 [(.val (.int .i64 0)), (.val (.int .i64 0)), (.val (.int .i64 0)), (.val (.int .i64 0)), (.val (.int .i64 0)), (.val (.int .i64 0)), (.val (.int .i64 0)), (.val (.int .i64 0))] (o_ 23) (o_ 23)) 0), (oP 25 (.mov (o_ 2)) 1), (oP 26 (.nilCheck (o_ 17)) 1), (oP 27 (.faddr 9 (o_ 26)) 1), ⟨none, .store 1 (o_ 27) (o_ 24), none, 1, [], true, []⟩, (oP 28 (.nilCheck (o_ 18)) 1), (oP 29 (.faddr 10 (o_ 28)) 1), ⟨none, .store 1 (o_ 29) (o_ 25), none, 1, [], true, []⟩]
def rg_98_1 : List AOper := [(oP 30 (.mov (o_ 0)) 0), ⟨(some 31), .nilCheck (o_ 30), none, 0, [3, 4, 5], false, []⟩, ⟨(some 32), .faddr 9 (o_ 31), none, 1, [3, 4, 5], false, []⟩, ⟨(some 33), .load none (o_ 32), none, 2, [3, 4, 5], false, []⟩, (oP 34 (.mov (o_ 0)) 3), ⟨(some 35), .nilCheck (o_ 34), none, 3, [0, 1, 2], false, []⟩, ⟨(some 36), .faddr 4 (o_ 35), none, 4, [0, 1, 2], false, []⟩, ⟨(some 37), .load none (o_ 36), none, 5, [0, 1, 2], false, []⟩, (oP 38 (.copy 8 (o_ 33) (o_ 37)) 6)]
def rg_98_2 : List AOper := [(oP 39 (.mov (o_ 0)) 0), ⟨(some 40), .nilCheck (o_ 39), none, 0, [3, 4, 5, 6, 7], false, []⟩, ⟨(some 41), .faddr 4 (o_ 40), none, 1, [3, 4, 5, 6, 7], false, []⟩, ⟨(some 42), .load none (o_ 41), none, 2, [3, 4, 5, 6, 7], false, []⟩, (oP 43 (.mov (o_ 0)) 3), ⟨(some 44), .nilCheck (o_ 43), none, 3, [0, 1, 2], false, []⟩, ⟨(some 45), .faddr 5 (o_ 44), none, 4, [0, 1, 2], false, []⟩, ⟨(some 46), .load none (o_ 45), none, 5, [0, 1, 2], false, []⟩, (oP 47 (.mov (o_ 1)) 6), ⟨(some 48), .iaddr 1 (o_ 46) (o_ 47), none, 6, [0, 1, 2], false, []⟩, ⟨(some 49), .load none (o_ 48), none, 7, [0, 1, 2], false, []⟩, (oP 50 (.iaddr 8 (o_ 42) (o_ 49)) 8), (oP 6 (.mov (o_ 50)) 9)]
def rg_98_3 : List AOper := [(oP 51 (.mov (o_ 0)) 0), (oP 52 (.nilCheck (o_ 51)) 0), (oP 53 (.faddr 6 (o_ 52)) 0), (oP 54 (.load none (o_ 53)) 0), (oP 55 (.mov (o_ 1)) 0), (oP 56 (.iaddr 1 (o_ 54) (o_ 55)) 0), (oP 57 (.load none (o_ 56)) 0), (oP 58 (.len false (o_ 57)) 0), (oP 59 (.mov (oc 0)) 0)]
def rg_98_4 : List AOper := [(oP 73 (.mov (o_ 0)) 0), (oP 74 (.nilCheck (o_ 73)) 0), (oP 75 (.faddr 9 (o_ 74)) 1), (oP 76 (.load none (o_ 75)) 2), (oP 77 (.eqNil 0 .neq (o_ 76) (.const (.slice none 0 0))) 3), (oP 78 (.mov (o_ 77)) 4), (oG 79 (.mov (o_ 9)) 78 true 4), (oG 80 (.mov (o_ 0)) 78 true 4), ⟨(some 81), .nilCheck (o_ 80), (some ((some 78), true)), 4, [9, 10, 11], false, []⟩, ⟨(some 82), .faddr 7 (o_ 81), (some ((some 78), true)), 5, [9, 10, 11], false, []⟩, ⟨(some 83), .load none (o_ 82), (some ((some 78), true)), 6, [9, 10, 11], false, []⟩, (oG 84 (.mov (o_ 1)) 78 true 7), (oG 85 (.bin false .add (o_ 84) (oc 1)) 78 true 7), ⟨(some 86), .iaddr 1 (o_ 83) (o_ 85), (some ((some 78), true)), 7, [9, 10, 11], false, []⟩, ⟨(some 87), .load none (o_ 86), (some ((some 78), true)), 8, [9, 10, 11], false, []⟩, (oG 88 (.bin false .add (o_ 79) (o_ 87)) 78 true 9), (oG 89 (.mov (o_ 0)) 78 true 9), ⟨(some 90), .nilCheck (o_ 89), (some ((some 78), true)), 9, [4, 5, 6, 7, 8], false, []⟩, ⟨(some 91), .faddr 10 (o_ 90), (some ((some 78), true)), 10, [4, 5, 6, 7, 8], false, []⟩, ⟨(some 92), .load none (o_ 91), (some ((some 78), true)), 11, [4, 5, 6, 7, 8], false, []⟩, (oG 93 (.bin false .geq (o_ 88) (o_ 92)) 78 true 12), (oP 94 (.pick (o_ 78) (o_ 93) (.const (.bool false))) 12)]
def lp_98_5 : ACode := (.seq (.region [(oP 60 (.bin false .lss (o_ 59) (o_ 58)) 0)] 0)
 (.seq (.cond (o_ 60)
 .skip
 (.exit 0))
 (.seq (.block 1 (.seq (.region [(oP 61 (.iaddr 1 (o_ 57) (o_ 59)) 0), (oP 62 (.load none (o_ 61)) 0), (oP 8 (.mov (o_ 62)) 0)] 0)
 (.seq (.region [(oP 63 (.mov (o_ 6)) 0), (oP 64 (.mov (o_ 8)) 0), (oP 65 (.nilCheck (o_ 63)) 0), (oP 66 (.faddr 7 (o_ 65)) 0), ⟨none, .store 1 (o_ 66) (o_ 64), none, 0, [], true, []⟩] 0)
 (.seq (.region [(oP 67 (.mov (o_ 2)) 0), (oP 68 (.mov (o_ 6)) 0), (oP 69 (.nilCheck (o_ 68)) 0), (oP 70 (.load (some 8) (o_ 69)) 0), (oP 71 (.call 74 [(o_ 70)]) 0), (oP 72 (.bin false .add (o_ 67) (o_ 71)) 1), (oP 9 (.mov (o_ 72)) 1)] 1)
 (.seq (.seq (.region rg_98_4 12)
 (.cond (o_ 94)
 .ret
 .skip))
 (.seq (.region [(oP 95 (.mov (o_ 0)) 0), (oP 96 (.mov (o_ 1)) 0), (oP 97 (.call 112 [(o_ 95), (o_ 96)]) 0)] 1)
 (.cond (o_ 97)
 (.seq (.region [(oP 98 (.mov (o_ 0)) 0), ⟨(some 99), .nilCheck (o_ 98), none, 0, [3, 4], false, []⟩, ⟨(some 100), .faddr 8 (o_ 99), none, 1, [3, 4], false, []⟩, ⟨(some 101), .load none (o_ 100), none, 2, [3, 4], false, []⟩, (oP 102 (.mov (o_ 6)) 3), ⟨(some 103), .nilCheck (o_ 102), none, 3, [0, 1, 2], false, []⟩, ⟨(some 104), .load (some 8) (o_ 103), none, 4, [0, 1, 2], false, []⟩, (oP 105 (.call 92 [(o_ 101), (o_ 104), (oc 1)]) 5)] 6)
 (.seq (.region [(oP 106 (.mov (o_ 0)) 0), (oP 107 (.mov (o_ 1)) 0), (oP 108 (.bin false .add (o_ 107) (oc 1)) 0), (oP 109 (.mov (o_ 9)) 0), (oP 110 (.call 98 [(o_ 106), (o_ 108), (o_ 109)]) 0)] 1)
 (.region [(oP 111 (.mov (o_ 0)) 0), ⟨(some 112), .nilCheck (o_ 111), none, 0, [3, 4], false, []⟩, ⟨(some 113), .faddr 8 (o_ 112), none, 1, [3, 4], false, []⟩, ⟨(some 114), .load none (o_ 113), none, 2, [3, 4], false, []⟩, (oP 115 (.mov (o_ 6)) 3), ⟨(some 116), .nilCheck (o_ 115), none, 3, [0, 1, 2], false, []⟩, ⟨(some 117), .load (some 8) (o_ 116), none, 4, [0, 1, 2], false, []⟩, (oP 118 (.call 92 [(o_ 114), (o_ 117), (oc (-1))]) 5)] 6)))
 .skip)))))))
 (.region [(oP 119 (.bin false .add (o_ 59) (oc 1)) 0), (oP 59 (.mov (o_ 119)) 0)] 0))))
def af_98 : AFun := ⟨120, [], (.seq (.seq (.region [(oP 10 (.mov (o_ 1)) 0), (oP 11 (.mov (o_ 0)) 0), (oP 12 (.nilCheck (o_ 11)) 0), (oP 13 (.faddr 5 (o_ 12)) 0), (oP 14 (.load none (o_ 13)) 0), (oP 15 (.len false (o_ 14)) 0), (oP 16 (.bin false .eql (o_ 10) (o_ 15)) 0)] 0)
 (.cond (o_ 16)
 (.seq (.region rg_98_0 1)
 (.seq (.region rg_98_1 7)
 .ret))
 .skip))
 (.seq (.region rg_98_2 9)
 (.seq (.region rg_98_3 0)
 (.block 0 (.loop lp_98_5)))))⟩
def af_80 : AFun := ⟨12, [.inl 5], (.seq (.region [(oP 3 (.box 8 (o_ 0)) 0), (oP 5 (.mov (.const (.bool false))) 1)] 1)
 (.seq (.region [(oP 6 (.faddr 2 (o_ 2)) 0), (oP 7 (.load none (o_ 6)) 0), (oP 8 (.mov (o_ 1)) 0), (oP 9 (.iaddr 1 (o_ 7) (o_ 8)) 0), (oP 10 (.load none (o_ 9)) 0), (oP 11 (.bin false .eql (o_ 10) (oc 0)) 0), (oP 5 (.mov (o_ 11)) 0)] 0)
 .ret))⟩
def rg_81_0 : List AOper := [⟨(some 6), .faddr 3 (o_ 2), none, 0, [4, 5, 6], false, []⟩, ⟨(some 7), .load none (o_ 6), none, 1, [4, 5, 6], false, []⟩, (oP 8 (.mov (o_ 1)) 2), ⟨(some 9), .iaddr 1 (o_ 7) (o_ 8), none, 2, [4, 5, 6], false, []⟩, ⟨(some 10), .load none (o_ 9), none, 3, [4, 5, 6], false, []⟩, ⟨(some 11), .faddr 0 (o_ 3), none, 4, [0, 1, 2, 3], false, []⟩, ⟨(some 12), .faddr 3 (o_ 11), none, 5, [0, 1, 2, 3], false, []⟩, ⟨(some 13), .load none (o_ 12), none, 6, [0, 1, 2, 3], false, []⟩, (oP 14 (.bin false .lss (o_ 10) (o_ 13)) 7), (oP 5 (.mov (o_ 14)) 7)]
def af_81 : AFun := ⟨15, [.inl 5], (.seq (.region [(oP 3 (.box 8 (o_ 0)) 0), (oP 5 (.mov (.const (.bool false))) 1)] 1)
 (.seq (.region rg_81_0 7)
 .ret))⟩
def af_82 : AFun := ⟨4, [.inr (1, (some 4))], (.seq (.region [(oP 1 (.zero [(.val (.int .u8 0)), (.val (.int .i64 0)), (.val (.int .i64 0)), (.val (.int .i64 0))]) 0)] 1)
 (.seq (.region [(oP 2 (.load none (o_ 0)) 0), (oP 3 (.call 83 [(o_ 2)]) 0), ⟨none, .store 4 (o_ 1) (o_ 3), none, 1, [], true, []⟩] 1)
 .ret))⟩
def af_84 : AFun := ⟨6, [.inr (2, (some 4))], (.seq (.region [(oP 2 (.zero [(.val (.int .u8 0)), (.val (.int .i64 0)), (.val (.int .i64 0)), (.val (.int .i64 0))]) 0)] 1)
 (.seq (.region [(oP 3 (.load none (o_ 0)) 0), (oP 4 (.load none (o_ 1)) 0), (oP 5 (.call 85 [(o_ 3), (.const (.int .u8 2)), (o_ 4)]) 0), ⟨none, .store 4 (o_ 2) (o_ 5), none, 1, [], true, []⟩] 1)
 .ret))⟩
def af_86 : AFun := ⟨6, [.inr (2, (some 4))], (.seq (.region [(oP 2 (.zero [(.val (.int .u8 0)), (.val (.int .i64 0)), (.val (.int .i64 0)), (.val (.int .i64 0))]) 0)] 1)
 (.seq (.region [(oP 3 (.load none (o_ 0)) 0), (oP 4 (.load none (o_ 1)) 0), (oP 5 (.call 85 [(o_ 3), (.const (.int .u8 3)), (o_ 4)]) 0), ⟨none, .store 4 (o_ 2) (o_ 5), none, 1, [], true, []⟩] 1)
 .ret))⟩
def af_87 : AFun := ⟨6, [.inr (2, (some 4))], (.seq (.region [(oP 2 (.zero [(.val (.int .u8 0)), (.val (.int .i64 0)), (.val (.int .i64 0)), (.val (.int .i64 0))]) 0)] 1)
 (.seq (.region [(oP 3 (.load (some 4) (o_ 0)) 0), (oP 4 (.load none (o_ 1)) 0), (oP 5 (.call 88 [(o_ 3), (o_ 4)]) 0), ⟨none, .store 4 (o_ 2) (o_ 5), none, 1, [], true, []⟩] 1)
 .ret))⟩
def af_89 : AFun := ⟨6, [.inr (2, (some 4))], (.seq (.region [(oP 2 (.zero [(.val (.int .u8 0)), (.val (.int .i64 0)), (.val (.int .i64 0)), (.val (.int .i64 0))]) 0)] 1)
 (.seq (.region [(oP 3 (.load (some 4) (o_ 0)) 0), (oP 4 (.load none (o_ 1)) 0), (oP 5 (.call 90 [(o_ 3), (o_ 4)]) 0), ⟨none, .store 4 (o_ 2) (o_ 5), none, 1, [], true, []⟩] 1)
 .ret))⟩
def af_99 : AFun := ⟨9, [.inl 2], (.seq (.region [(oP 1 (.box 8 (o_ 0)) 0), (oP 2 (.mov (oc 0)) 1)] 1)
 (.seq (.region [(oP 3 (.faddr 7 (o_ 1)) 0), (oP 4 (.load none (o_ 3)) 0), (oP 5 (.faddr 0 (o_ 1)) 0), (oP 6 (.faddr 2 (o_ 5)) 0), (oP 7 (.load none (o_ 6)) 0), (oP 8 (.bin false .add (o_ 4) (o_ 7)) 0), (oP 2 (.mov (o_ 8)) 0)] 0)
 .ret))⟩
def af_65 : AFun := ⟨9, [.inl 2], (.seq (.region [(oP 1 (.box 8 (o_ 0)) 0), (oP 2 (.mov (oc 0)) 1)] 1)
 (.seq (.region [(oP 3 (.faddr 7 (o_ 1)) 0), (oP 4 (.load none (o_ 3)) 0), (oP 5 (.faddr 0 (o_ 1)) 0), (oP 6 (.faddr 1 (o_ 5)) 0), (oP 7 (.load none (o_ 6)) 0), (oP 8 (.bin false .sub (o_ 4) (o_ 7)) 0), (oP 2 (.mov (o_ 8)) 0)] 0)
 .ret))⟩
def lp_104_0 : ACode := (.seq (.region [(oP 9 (.bin false .lss (o_ 8) (o_ 7)) 0)] 0)
 (.seq (.cond (o_ 9)
 .skip
 (.exit 0))
 (.seq (.block 1 (.seq (.region [(oP 10 (.mov (o_ 8)) 0), (oP 5 (.mov (o_ 10)) 0)] 0)
 (.seq (.region [(oP 11 (.mov (o_ 1)) 0), (oP 12 (.mov (o_ 0)) 0), (oP 13 (.mov (o_ 5)) 0), (oP 14 (.iaddr 8 (o_ 12) (o_ 13)) 0), (oP 15 (.load (some 8) (o_ 14)) 0), (oP 16 (.callv (o_ 11) [(o_ 15)]) 0)] 1)
 (.cond (o_ 16)
 (.seq (.region [(oP 17 (.mov (o_ 5)) 0), (oP 4 (.mov (o_ 17)) 0)] 0)
 .ret)
 .skip))))
 (.region [(oP 18 (.bin false .add (o_ 8) (oc 1)) 0), (oP 8 (.mov (o_ 18)) 0)] 0))))
def rs_104_1 : ACode := (.seq (.region [(oP 4 (.mov (oc (-1))) 0)] 0)
 .ret)
def af_104 : AFun := ⟨19, [.inl 4], (.seq (.region [(oP 4 (.mov (oc 0)) 0)] 0)
 (.seq (.seq (.region [(oP 6 (.mov (o_ 0)) 0), (oP 7 (.len false (o_ 6)) 0), (oP 8 (.mov (oc 0)) 0)] 0)
 (.block 0 (.loop lp_104_0)))
 rs_104_1))⟩
def rg_17_0 : List AOper := [(oP 5 (.faddr 2 (o_ 1)) 0), (oP 6 (.load none (o_ 5)) 0), (oP 7 (.len false (o_ 6)) 0), (oP 8 (.call 49 [(oc 1), (o_ 7), (oc 96)]) 0), (oP 9 (.mov (o_ 8)) 1), (oG 10 (.faddr 3 (o_ 1)) 9 true 1), (oG 11 (.load none (o_ 10)) 9 true 1), (oG 12 (.len false (o_ 11)) 9 true 1), (oG 13 (.faddr 2 (o_ 1)) 9 true 1), (oG 14 (.load none (o_ 13)) 9 true 1), (oG 15 (.len false (o_ 14)) 9 true 1), (oG 16 (.bin false .eql (o_ 12) (o_ 15)) 9 true 1), (oP 17 (.pick (o_ 9) (o_ 16) (.const (.bool false))) 1), (oP 18 (.mov (o_ 17)) 1), (oG 19 (.faddr 2 (o_ 1)) 18 true 1), (oG 20 (.load none (o_ 19)) 18 true 1), (oG 21 (.mov (o_ 3)) 18 true 1), (oG 22 (.call 52 [(o_ 20), (o_ 21)]) 18 true 1), (oG 23 (.un .not (o_ 22)) 18 true 2), (oP 24 (.pick (o_ 18) (o_ 23) (.const (.bool false))) 2), (oP 25 (.mov (o_ 24)) 2), (oG 26 (.faddr 3 (o_ 1)) 25 true 2), (oG 27 (.load none (o_ 26)) 25 true 2), (oG 28 (.mov (o_ 4)) 25 true 2), (oG 29 (.call 52 [(o_ 27), (o_ 28)]) 25 true 2), (oG 30 (.un .not (o_ 29)) 25 true 3), (oP 31 (.pick (o_ 25) (o_ 30) (.const (.bool false))) 3), (oP 32 (.mov (o_ 31)) 3), (oG 33 (.faddr 0 (o_ 1)) 32 true 3), (oG 34 (.load none (o_ 33)) 32 true 3), (oG 35 (.call 49 [(oc 1), (o_ 34), (oc 4)]) 32 true 3), (oP 36 (.pick (o_ 32) (o_ 35) (.const (.bool false))) 4), (oP 37 (.mov (o_ 36)) 4), (oG 38 (.faddr 1 (o_ 1)) 37 true 4), (oG 39 (.load none (o_ 38)) 37 true 4), (oG 40 (.call 49 [(oc 0), (o_ 39), (oc 6)]) 37 true 4), (oP 41 (.pick (o_ 37) (o_ 40) (.const (.bool false))) 5), (oP 42 (.call 51 [(o_ 41)]) 5), (oP 2 (.mov (o_ 42)) 6)]
def af_17 : AFun := ⟨43, [.inl 2], (.seq (.region [(oP 1 (.box 4 (o_ 0)) 0), (oP 2 (.mov (oc 0)) 1)] 1)
 (.seq (.region [(oP 3 (.mov (.func 48)) 0)] 0)
 (.seq (.region [(oP 4 (.mov (.func 50)) 0)] 0)
 (.seq (.region rg_17_0 6)
 .ret))))⟩
def af_53 : AFun := ⟨8, [.inl 3], (.seq (.region [(oP 2 (.box 7 (o_ 0)) 0), (oP 3 (.mov (.const (.bool false))) 1)] 1)
 (.seq (.region [(oP 4 (.load (some 4) (o_ 1)) 0), (oP 5 (.load (some 7) (o_ 2)) 0), (oP 6 (.call 54 [(o_ 4), (o_ 5)]) 0), (oP 7 (.un .not (o_ 6)) 1), (oP 3 (.mov (o_ 7)) 1)] 1)
 .ret))⟩
def af_55 : AFun := ⟨9, [.inl 4], (.seq (.region [(oP 4 (.mov (.const (.bool false))) 0)] 0)
 (.seq (.region [(oP 5 (.mov (o_ 0)) 0), (oP 6 (.mov (o_ 1)) 0), (oP 7 (.call 79 [(o_ 5), (o_ 6)]) 0), (oP 8 (.bin false .geq (o_ 7) (oc 0)) 1), (oP 4 (.mov (o_ 8)) 1)] 1)
 .ret))⟩
def af_51 : AFun := ⟨5, [.inl 2], (.seq (.region [(oP 2 (.mov (oc 0)) 0)] 0)
 (.seq (.seq (.region [(oP 3 (.mov (o_ 0)) 0), (oP 4 (.un .not (o_ 3)) 0)] 0)
 (.cond (o_ 4)
 (.seq (.region [(oP 2 (.mov (oc 2)) 0)] 0)
 .ret)
 .skip))
 (.seq (.region [(oP 2 (.mov (oc 0)) 0)] 0)
 .ret)))⟩
def lp_61_0 : ACode := (.seq (.region [(oP 15 (.bin false .lss (o_ 14) (o_ 13)) 0)] 0)
 (.seq (.cond (o_ 15)
 .skip
 (.exit 0))
 (.seq (.block 1 (.seq (.region [(oP 16 (.iaddr 8 (o_ 12) (o_ 14)) 0), (oP 17 (.load (some 8) (o_ 16)) 0), (oP 7 (.zero [(.val (.int .i64 0)), (.val (.int .i64 0)), (.val (.int .i64 0)), (.val (.int .i64 0)), (.val (.int .i64 0)), (.val (.int .i64 0)), (.val (.int .i64 0)), (.val (.int .i64 0))]) 0), ⟨none, .store 8 (o_ 7) (o_ 17), none, 1, [], true, []⟩] 1)
 (.region [(oP 18 (.mov (o_ 5)) 0), (oP 19 (.load (some 8) (o_ 7)) 0), (oP 20 (.call 92 [(o_ 18), (o_ 19), (oc 1)]) 0)] 1)))
 (.region [(oP 21 (.bin false .add (o_ 14) (oc 1)) 0), (oP 14 (.mov (o_ 21)) 0)] 0))))
def rs_61_1 : ACode := (.seq (.region [(oP 22 (.mov (o_ 5)) 0), (oP 4 (.mov (o_ 22)) 0)] 0)
 .ret)
def af_61 : AFun := ⟨23, [.inl 4], (.seq (.region [(oP 2 (.box 4 (o_ 0)) 0), (oP 4 (.mov (.const (.slice none 0 0))) 1)] 1)
 (.seq (.region [(oP 8 (.faddr 2 (o_ 2)) 0), (oP 9 (.load none (o_ 8)) 0), (oP 10 (.len false (o_ 9)) 0), (oP 11 (.mkSlice 1 8 [(.val (.int .i64 0))] (o_ 10) (o_ 10)) 0), (oP 5 (.mov (o_ 11)) 1)] 1)
 (.seq (.seq (.region [(oP 12 (.mov (o_ 1)) 0), (oP 13 (.len false (o_ 12)) 0), (oP 14 (.mov (oc 0)) 0)] 0)
 (.block 0 (.loop lp_61_0)))
 rs_61_1)))⟩
def af_110 : AFun := ⟨11, [.inl 4], (.seq (.region [(oP 4 (.mov (.const (.bool false))) 0)] 0)
 (.seq (.region [(oP 5 (.mov (o_ 0)) 0), (oP 6 (.faddr 1 (o_ 1)) 0), (oP 7 (.load none (o_ 6)) 0), (oP 8 (.bin false .sub (o_ 5) (o_ 7)) 0), (oP 9 (.load none (o_ 2)) 0), (oP 10 (.bin false .lss (o_ 8) (o_ 9)) 0), (oP 4 (.mov (o_ 10)) 0)] 0)
 .ret))⟩
def lp_73_0 : ACode := (.seq (.region [(oP 20 (.bin false .lss (o_ 19) (o_ 18)) 0)] 0)
 (.seq (.cond (o_ 20)
 .skip
 (.exit 0))
 (.seq (.block 1 (.seq (.region [(oP 21 (.mov (o_ 19)) 0), (oP 9 (.mov (o_ 21)) 0)] 0)
 (.seq (.region [(oP 22 (.mov (o_ 8)) 0), (oP 23 (.mov (o_ 1)) 0), (oP 24 (.len false (o_ 23)) 0), (oP 25 (.mov (o_ 9)) 0), (oP 26 (.iaddr 8 (o_ 22) (o_ 24)) 0), (oP 27 (.faddr 7 (o_ 26)) 0), ⟨none, .store 1 (o_ 27) (o_ 25), none, 0, [], true, []⟩] 0)
 (.seq (.region [(oP 28 (.load (some 4) (o_ 3)) 0), (oP 29 (.mov (o_ 8)) 0), (oP 30 (.call 91 [(o_ 28), (o_ 29)]) 0)] 1)
 (.cond (o_ 30)
 (.region [(oP 31 (.mov (o_ 7)) 0), (oP 32 (.mov (o_ 9)) 0), (oP 33 (.bslice 1 1 [(.val (.int .i64 0))] [(0, (o_ 32))]) 0), (oP 34 (.append 1 (o_ 31) (o_ 33)) 1), (oP 7 (.mov (o_ 34)) 2)] 2)
 .skip)))))
 (.region [(oP 35 (.bin false .add (o_ 19) (oc 1)) 0), (oP 19 (.mov (o_ 35)) 0)] 0))))
def rs_73_1 : ACode := (.seq (.region [(oP 36 (.mov (o_ 7)) 0), (oP 6 (.mov (o_ 36)) 0)] 0)
 .ret)
def af_73 : AFun := ⟨37, [.inl 6], (.seq (.region [(oP 3 (.box 4 (o_ 0)) 0), (oP 5 (.box 7 (o_ 2)) 1), (oP 6 (.mov (.const (.slice none 0 0))) 2)] 2)
 (.seq (.region [(oP 7 (.mov (.const (.slice none 0 0))) 0)] 0)
 (.seq (.region [(oP 10 (.mov (o_ 1)) 0), ⟨(some 11), .call 95 [(o_ 10)], none, 0, [1, 2], false, []⟩, ⟨(some 12), .load (some 7) (o_ 5), none, 1, [0], false, []⟩, (oP 13 (.build [(.val (.int .i64 0)), (.val (.int .i64 0)), (.val (.int .i64 0)), (.val (.int .i64 0)), (.val (.int .i64 0)), (.val (.int .i64 0)), (.val (.int .i64 0)), (.val (.int .i64 0))] [(0, 7, (o_ 12))]) 2), ⟨(some 14), .bslice 8 1 [(.val (.int .i64 0)), (.val (.int .i64 0)), (.val (.int .i64 0)), (.val (.int .i64 0)), (.val (.int .i64 0)), (.val (.int .i64 0)), (.val (.int .i64 0)), (.val (.int .i64 0))] [(0, (o_ 13))], none, 2, [0], false, []⟩, (oP 15 (.append 8 (o_ 11) (o_ 14)) 3), (oP 8 (.mov (o_ 15)) 4)] 4)
 (.seq (.seq (.region [(oP 16 (.faddr 2 (o_ 3)) 0), (oP 17 (.load none (o_ 16)) 0), (oP 18 (.len false (o_ 17)) 0), (oP 19 (.mov (oc 0)) 0)] 0)
 (.block 0 (.loop lp_73_0)))
 rs_73_1))))⟩
def lp_111_0 : ACode := (.seq (.seq (.region [(oP 16 (.mov (o_ 6)) 0), (oP 17 (.mov (o_ 0)) 0), (oP 18 (.len false (o_ 17)) 0), (oP 19 (.bin false .lss (o_ 16) (o_ 18)) 0)] 0)
 (.cond (o_ 19)
 .skip
 (.exit 0)))
 (.seq (.block 1 (.seq (.region [(oP 22 (.mov (o_ 0)) 0), (oP 23 (.mov (o_ 6)) 0), (oP 24 (.iaddr 1 (o_ 22) (o_ 23)) 0), (oP 25 (.load none (o_ 24)) 0), (oP 7 (.mov (o_ 25)) 0)] 0)
 (.seq (.region [(oP 26 (.mov (o_ 1)) 0), (oP 27 (.mov (o_ 7)) 0), (oP 28 (.callv (o_ 26) [(o_ 27)]) 0), (oP 29 (.un .not (o_ 28)) 1)] 1)
 (.cond (o_ 29)
 (.seq (.region [(oP 30 (.mov (o_ 0)) 0), (oP 31 (.mov (o_ 5)) 0), (oP 32 (.mov (o_ 7)) 0), (oP 33 (.iaddr 1 (o_ 30) (o_ 31)) 0), ⟨none, .store 1 (o_ 33) (o_ 32), none, 0, [], true, []⟩] 0)
 (.region [(oP 34 (.mov (o_ 5)) 0), (oP 35 (.bin false .add (o_ 34) (oc 1)) 0), (oP 5 (.mov (o_ 35)) 0)] 0))
 .skip))))
 (.region [(oP 20 (.mov (o_ 6)) 0), (oP 21 (.bin false .add (o_ 20) (oc 1)) 0), (oP 6 (.mov (o_ 21)) 0)] 0)))
def rs_111_1 : ACode := (.seq (.region [(oP 36 (.mov (o_ 0)) 0), (oP 37 (.mov (o_ 5)) 0), (oP 38 (.slice 1 (o_ 36) (some (o_ 37)) none none) 0), ⟨none, .clear 1 [(.val (.int .i64 0))] (o_ 38), none, 0, [], true, []⟩] 0)
 (.seq (.region [(oP 39 (.mov (o_ 0)) 0), (oP 40 (.mov (o_ 5)) 0), (oP 41 (.slice 1 (o_ 39) none (some (o_ 40)) none) 0), (oP 4 (.mov (o_ 41)) 0)] 0)
 .ret))
def af_111 : AFun := ⟨42, [.inl 4], (.seq (.region [(oP 4 (.mov (.const (.slice none 0 0))) 0)] 0)
 (.seq (.region [(oP 8 (.mov (o_ 0)) 0), (oP 9 (.mov (o_ 1)) 0), (oP 10 (.call 66 [(o_ 8), (o_ 9)]) 0), (oP 5 (.mov (o_ 10)) 1)] 1)
 (.seq (.seq (.region [(oP 11 (.mov (o_ 5)) 0), (oP 12 (.bin false .eql (o_ 11) (oc (-1))) 0)] 0)
 (.cond (o_ 12)
 (.seq (.region [(oP 13 (.mov (o_ 0)) 0), (oP 4 (.mov (o_ 13)) 0)] 0)
 .ret)
 .skip))
 (.seq (.seq (.region [(oP 14 (.mov (o_ 5)) 0), (oP 15 (.bin false .add (o_ 14) (oc 1)) 0), (oP 6 (.mov (o_ 15)) 0)] 0)
 (.block 0 (.loop lp_111_0)))
 rs_111_1))))⟩
def af_74 : AFun := ⟨9, [.inl 2], (.seq (.region [(oP 1 (.box 8 (o_ 0)) 0), (oP 2 (.mov (oc 0)) 1)] 1)
 (.seq (.region [⟨(some 3), .faddr 0 (o_ 1), none, 0, [3, 4], false, []⟩, ⟨(some 4), .faddr 6 (o_ 3), none, 1, [3, 4], false, []⟩, ⟨(some 5), .load none (o_ 4), none, 2, [3, 4], false, []⟩, ⟨(some 6), .load (some 8) (o_ 1), none, 3, [0, 1, 2], false, []⟩, ⟨(some 7), .call 99 [(o_ 6)], none, 4, [0, 1, 2], false, []⟩, (oP 8 (.bin false .mul (o_ 5) (o_ 7)) 5), (oP 2 (.mov (o_ 8)) 5)] 5)
 .ret))⟩
def rg_112_0 : List AOper := [⟨(some 8), .load none (o_ 2), none, 0, [4, 5, 6, 7, 8, 9, 12], false, []⟩, ⟨(some 9), .nilCheck (o_ 8), none, 1, [4, 5, 6, 7, 8, 9, 12], false, []⟩, ⟨(some 10), .faddr 4 (o_ 9), none, 2, [4, 5, 6, 7, 8, 9, 12], false, []⟩, ⟨(some 11), .load none (o_ 10), none, 3, [4, 5, 6, 7, 8, 9, 12], false, []⟩, ⟨(some 12), .load none (o_ 2), none, 4, [0, 1, 2, 3, 12], false, []⟩, ⟨(some 13), .nilCheck (o_ 12), none, 5, [0, 1, 2, 3, 12], false, []⟩, ⟨(some 14), .faddr 5 (o_ 13), none, 6, [0, 1, 2, 3, 12], false, []⟩, ⟨(some 15), .load none (o_ 14), none, 7, [0, 1, 2, 3, 12], false, []⟩, (oP 16 (.mov (o_ 1)) 8), ⟨(some 17), .iaddr 1 (o_ 15) (o_ 16), none, 8, [0, 1, 2, 3, 12], false, []⟩, ⟨(some 18), .load none (o_ 17), none, 9, [0, 1, 2, 3, 12], false, []⟩, ⟨(some 19), .iaddr 8 (o_ 11) (o_ 18), none, 10, [12], false, []⟩, ⟨(some 20), .load (some 8) (o_ 19), none, 11, [12], false, []⟩, ⟨(some 5), .zero [(.val (.int .i64 0)), (.val (.int .i64 0)), (.val (.int .i64 0)), (.val (.int .i64 0)), (.val (.int .i64 0)), (.val (.int .i64 0)), (.val (.int .i64 0)), (.val (.int .i64 0))], none, 12, [0, 1, 2, 3, 4, 5, 6, 7, 8, 9, 10, 11], false, []⟩, ⟨none, .store 8 (o_ 5) (o_ 20), none, 13, [], true, []⟩]
def rg_112_1 : List AOper := [(oP 23 (.load none (o_ 2)) 0), (oP 24 (.nilCheck (o_ 23)) 1), (oP 25 (.faddr 5 (o_ 24)) 2), (oP 26 (.load none (o_ 25)) 3), (oP 27 (.mov (o_ 1)) 4), (oP 28 (.slice 1 (o_ 26) none (some (o_ 27)) none) 4), (oP 29 (.mov (o_ 6)) 5), (oP 30 (.call 52 [(o_ 28), (o_ 29)]) 5), (oP 31 (.un .not (o_ 30)) 6), (oP 32 (.mov (o_ 31)) 6), ⟨(some 33), .load none (o_ 2), (some ((some 32), true)), 6, [10, 11, 12, 13], false, []⟩, ⟨(some 34), .nilCheck (o_ 33), (some ((some 32), true)), 7, [10, 11, 12, 13], false, []⟩, ⟨(some 35), .faddr 8 (o_ 34), (some ((some 32), true)), 8, [10, 11, 12, 13], false, []⟩, ⟨(some 36), .load none (o_ 35), (some ((some 32), true)), 9, [10, 11, 12, 13], false, []⟩, ⟨(some 37), .load (some 8) (o_ 5), (some ((some 32), true)), 10, [6, 7, 8, 9, 12, 13], false, []⟩, ⟨(some 38), .call 65 [(o_ 37)], (some ((some 32), true)), 11, [6, 7, 8, 9, 12, 13], false, []⟩, ⟨(some 39), .faddr 7 (o_ 5), (some ((some 32), true)), 12, [6, 7, 8, 9, 10, 11], false, []⟩, ⟨(some 40), .load none (o_ 39), (some ((some 32), true)), 13, [6, 7, 8, 9, 10, 11], false, []⟩, (oG 41 (.slice 1 (o_ 36) (some (o_ 38)) (some (o_ 40)) none) 32 true 14), (oG 42 (.mov (o_ 7)) 32 true 15), (oG 43 (.call 52 [(o_ 41), (o_ 42)]) 32 true 15), (oG 44 (.un .not (o_ 43)) 32 true 16), (oP 45 (.pick (o_ 32) (o_ 44) (.const (.bool false))) 16), (oP 4 (.mov (o_ 45)) 16)]
def af_112 : AFun := ⟨46, [.inl 4], (.seq (.region [(oP 2 (.box 1 (o_ 0)) 0), (oP 4 (.mov (.const (.bool false))) 1)] 1)
 (.seq (.region rg_112_0 14)
 (.seq (.region [(oP 21 (.mkFn 114 [] [(o_ 2), (o_ 5)]) 0), (oP 6 (.mov (o_ 21)) 0)] 0)
 (.seq (.region [(oP 22 (.mkFn 115 [] [(o_ 2)]) 0), (oP 7 (.mov (o_ 22)) 0)] 0)
 (.seq (.region rg_112_1 16)
 .ret)))))⟩
def lp_92_0 : ACode := (.seq (.seq (.region [(oP 9 (.mov (o_ 6)) 0), (oP 10 (.faddr 7 (o_ 4)) 0), (oP 11 (.load none (o_ 10)) 0), (oP 12 (.bin false .lss (o_ 9) (o_ 11)) 0)] 0)
 (.cond (o_ 12)
 .skip
 (.exit 0)))
 (.seq (.block 1 (.region [(oP 15 (.mov (o_ 0)) 0), (oP 16 (.mov (o_ 6)) 0), (oP 17 (.iaddr 1 (o_ 15) (o_ 16)) 0), (oP 18 (.load none (o_ 17)) 0), (oP 19 (.mov (o_ 2)) 0), (oP 20 (.bin false .add (o_ 18) (o_ 19)) 0), (oP 21 (.iaddr 1 (o_ 15) (o_ 16)) 0), ⟨none, .store 1 (o_ 21) (o_ 20), none, 0, [], true, []⟩] 0))
 (.region [(oP 13 (.mov (o_ 6)) 0), (oP 14 (.bin false .add (o_ 13) (oc 1)) 0), (oP 6 (.mov (o_ 14)) 0)] 0)))
def af_92 : AFun := ⟨22, [], (.seq (.region [(oP 4 (.box 8 (o_ 1)) 0)] 1)
 (.seq (.region [(oP 7 (.load (some 8) (o_ 4)) 0), (oP 8 (.call 65 [(o_ 7)]) 0), (oP 6 (.mov (o_ 8)) 1)] 1)
 (.block 0 (.loop lp_92_0))))⟩
def af_83 : AFun := ⟨11, [.inr (2, (some 4))], (.seq (.region [(oP 2 (.zero [(.val (.int .u8 0)), (.val (.int .i64 0)), (.val (.int .i64 0)), (.val (.int .i64 0))]) 0)] 1)
 (.seq (.seq (.region [(oP 4 (.mov (o_ 0)) 0), (oP 5 (.call 104 [(o_ 4), (.func 105)]) 0), (oP 3 (.mov (o_ 5)) 1)] 1)
 (.seq (.region [(oP 6 (.mov (o_ 3)) 0), (oP 7 (.bin false .geq (o_ 6) (oc 0)) 0)] 0)
 (.cond (o_ 7)
 (.seq (.region [(oP 8 (.mov (o_ 3)) 0), (oP 9 (.build [(.val (.int .u8 0)), (.val (.int .i64 0)), (.val (.int .i64 0)), (.val (.int .i64 0))] [(0, 1, (.const (.int .u8 1))), (1, 1, (o_ 8))]) 0), ⟨none, .store 4 (o_ 2) (o_ 9), none, 0, [], true, []⟩] 0)
 .ret)
 .skip)))
 (.seq (.region [(oP 10 (.build [(.val (.int .u8 0)), (.val (.int .i64 0)), (.val (.int .i64 0)), (.val (.int .i64 0))] []) 0), ⟨none, .store 4 (o_ 2) (o_ 10), none, 0, [], true, []⟩] 0)
 .ret)))⟩
def lp_85_0 : ACode := (.seq (.region [(oP 22 (.bin false .lss (o_ 21) (o_ 20)) 0)] 0)
 (.seq (.cond (o_ 22)
 .skip
 (.exit 2))
 (.seq (.block 3 (.seq (.region [(oP 23 (.mov (o_ 21)) 0), (oP 9 (.mov (o_ 23)) 0)] 0)
 (.seq (.region [(oP 24 (.faddr 7 (o_ 8)) 0), (oP 25 (.load none (o_ 24)) 0), (oP 26 (.mov (o_ 9)) 0), (oP 27 (.bin false .add (o_ 25) (o_ 26)) 0), (oP 10 (.mov (o_ 27)) 0)] 0)
 (.seq (.region [(oP 28 (.mov (o_ 2)) 0), (oP 29 (.load (some 8) (o_ 8)) 0), (oP 30 (.mov (o_ 10)) 0), (oP 31 (.callv (o_ 28) [(o_ 29), (o_ 30)]) 0)] 1)
 (.cond (o_ 31)
 (.seq (.region [(oP 32 (.mov (o_ 1)) 0), (oP 33 (.mov (o_ 7)) 0), (oP 34 (.mov (o_ 10)) 0), (oP 35 (.build [(.val (.int .u8 0)), (.val (.int .i64 0)), (.val (.int .i64 0)), (.val (.int .i64 0))] [(0, 1, (o_ 32)), (1, 1, (o_ 33)), (3, 1, (o_ 34))]) 0), ⟨none, .store 4 (o_ 6) (o_ 35), none, 0, [], true, []⟩] 0)
 .ret)
 .skip)))))
 (.region [(oP 36 (.bin false .add (o_ 21) (oc 1)) 0), (oP 21 (.mov (o_ 36)) 0)] 0))))
def rs_85_1 : ACode := (.region [(oP 37 (.bin false .add (o_ 13) (oc 1)) 0), (oP 13 (.mov (o_ 37)) 0)] 0)
def lp_85_2 : ACode := (.seq (.region [(oP 14 (.bin false .lss (o_ 13) (o_ 12)) 0)] 0)
 (.seq (.cond (o_ 14)
 .skip
 (.exit 0))
 (.seq (.block 1 (.seq (.region [(oP 15 (.mov (o_ 13)) 0), (oP 16 (.iaddr 8 (o_ 11) (o_ 13)) 0), (oP 17 (.load (some 8) (o_ 16)) 0), (oP 8 (.zero [(.val (.int .i64 0)), (.val (.int .i64 0)), (.val (.int .i64 0)), (.val (.int .i64 0)), (.val (.int .i64 0)), (.val (.int .i64 0)), (.val (.int .i64 0)), (.val (.int .i64 0))]) 0), (oP 7 (.mov (o_ 15)) 1), ⟨none, .store 8 (o_ 8) (o_ 17), none, 1, [], true, []⟩] 1)
 (.seq (.region [(oP 18 (.faddr 0 (o_ 8)) 0), (oP 19 (.faddr 2 (o_ 18)) 0), (oP 20 (.load none (o_ 19)) 0), (oP 21 (.mov (oc 0)) 0)] 0)
 (.block 2 (.loop lp_85_0)))))
 rs_85_1)))
def rs_85_3 : ACode := (.seq (.region [(oP 38 (.build [(.val (.int .u8 0)), (.val (.int .i64 0)), (.val (.int .i64 0)), (.val (.int .i64 0))] []) 0), ⟨none, .store 4 (o_ 6) (o_ 38), none, 0, [], true, []⟩] 0)
 .ret)
def af_85 : AFun := ⟨39, [.inr (6, (some 4))], (.seq (.region [(oP 6 (.zero [(.val (.int .u8 0)), (.val (.int .i64 0)), (.val (.int .i64 0)), (.val (.int .i64 0))]) 0)] 1)
 (.seq (.seq (.region [(oP 11 (.mov (o_ 0)) 0), (oP 12 (.len false (o_ 11)) 0), (oP 13 (.mov (oc 0)) 0)] 0)
 (.block 0 (.loop lp_85_2)))
 rs_85_3))⟩
def lp_88_0 : ACode := (.seq (.seq (.region [(oP 17 (.mov (o_ 7)) 0), (oP 18 (.mov (o_ 1)) 0), (oP 19 (.len false (o_ 18)) 0), (oP 20 (.bin false .lss (o_ 17) (o_ 19)) 0)] 0)
 (.cond (o_ 20)
 .skip
 (.exit 2)))
 (.seq (.block 3 (.seq (.region [⟨(some 23), .load (some 4) (o_ 2), none, 0, [1, 2, 3], false, []⟩, ⟨(some 24), .load (some 8) (o_ 6), none, 1, [0, 2, 3], false, []⟩, (oP 25 (.mov (o_ 1)) 2), (oP 26 (.mov (o_ 7)) 2), ⟨(some 27), .iaddr 8 (o_ 25) (o_ 26), none, 2, [0, 1], false, []⟩, ⟨(some 28), .load (some 8) (o_ 27), none, 3, [0, 1], false, []⟩, (oP 29 (.call 106 [(o_ 23), (o_ 24), (o_ 28)]) 4)] 5)
 (.cond (o_ 29)
 (.seq (.region [(oP 30 (.mov (o_ 5)) 0), (oP 31 (.mov (o_ 7)) 0), (oP 32 (.build [(.val (.int .u8 0)), (.val (.int .i64 0)), (.val (.int .i64 0)), (.val (.int .i64 0))] [(0, 1, (.const (.int .u8 4))), (1, 1, (o_ 30)), (2, 1, (o_ 31))]) 0), ⟨none, .store 4 (o_ 4) (o_ 32), none, 0, [], true, []⟩] 0)
 .ret)
 .skip)))
 (.region [(oP 21 (.mov (o_ 7)) 0), (oP 22 (.bin false .add (o_ 21) (oc 1)) 0), (oP 7 (.mov (o_ 22)) 0)] 0)))
def rs_88_1 : ACode := (.region [(oP 33 (.bin false .add (o_ 10) (oc 1)) 0), (oP 10 (.mov (o_ 33)) 0)] 0)
def lp_88_2 : ACode := (.seq (.region [(oP 11 (.bin false .lss (o_ 10) (o_ 9)) 0)] 0)
 (.seq (.cond (o_ 11)
 .skip
 (.exit 0))
 (.seq (.block 1 (.seq (.region [(oP 12 (.mov (o_ 10)) 0), (oP 13 (.iaddr 8 (o_ 8) (o_ 10)) 0), (oP 14 (.load (some 8) (o_ 13)) 0), (oP 6 (.zero [(.val (.int .i64 0)), (.val (.int .i64 0)), (.val (.int .i64 0)), (.val (.int .i64 0)), (.val (.int .i64 0)), (.val (.int .i64 0)), (.val (.int .i64 0)), (.val (.int .i64 0))]) 0), (oP 5 (.mov (o_ 12)) 1), ⟨none, .store 8 (o_ 6) (o_ 14), none, 1, [], true, []⟩] 1)
 (.seq (.region [(oP 15 (.mov (o_ 5)) 0), (oP 16 (.bin false .add (o_ 15) (oc 1)) 0), (oP 7 (.mov (o_ 16)) 0)] 0)
 (.block 2 (.loop lp_88_0)))))
 rs_88_1)))
def rs_88_3 : ACode := (.seq (.region [(oP 34 (.build [(.val (.int .u8 0)), (.val (.int .i64 0)), (.val (.int .i64 0)), (.val (.int .i64 0))] []) 0), ⟨none, .store 4 (o_ 4) (o_ 34), none, 0, [], true, []⟩] 0)
 .ret)
def af_88 : AFun := ⟨35, [.inr (4, (some 4))], (.seq (.region [(oP 2 (.box 4 (o_ 0)) 0), (oP 4 (.zero [(.val (.int .u8 0)), (.val (.int .i64 0)), (.val (.int .i64 0)), (.val (.int .i64 0))]) 1)] 2)
 (.seq (.seq (.region [(oP 8 (.mov (o_ 1)) 0), (oP 9 (.len false (o_ 8)) 0), (oP 10 (.mov (oc 0)) 0)] 0)
 (.block 0 (.loop lp_88_2)))
 rs_88_3))⟩
def af_90 : AFun := ⟨18, [.inr (4, (some 4))], (.seq (.region [(oP 2 (.box 4 (o_ 0)) 0), (oP 4 (.zero [(.val (.int .u8 0)), (.val (.int .i64 0)), (.val (.int .i64 0)), (.val (.int .i64 0))]) 1)] 2)
 (.seq (.region [(oP 7 (.mkFn 107 [] [(o_ 2)]) 0), (oP 5 (.mov (o_ 7)) 0)] 0)
 (.seq (.seq (.region [(oP 8 (.load (some 4) (o_ 2)) 0), (oP 9 (.mov (o_ 1)) 0), (oP 10 (.call 61 [(o_ 8), (o_ 9)]) 0), (oP 11 (.mov (o_ 5)) 1), (oP 12 (.call 66 [(o_ 10), (o_ 11)]) 1), (oP 6 (.mov (o_ 12)) 2)] 2)
 (.seq (.region [(oP 13 (.mov (o_ 6)) 0), (oP 14 (.bin false .geq (o_ 13) (oc 0)) 0)] 0)
 (.cond (o_ 14)
 (.seq (.region [(oP 15 (.mov (o_ 6)) 0), (oP 16 (.build [(.val (.int .u8 0)), (.val (.int .i64 0)), (.val (.int .i64 0)), (.val (.int .i64 0))] [(0, 1, (.const (.int .u8 5))), (3, 1, (o_ 15))]) 0), ⟨none, .store 4 (o_ 4) (o_ 16), none, 0, [], true, []⟩] 0)
 .ret)
 .skip)))
 (.seq (.region [(oP 17 (.build [(.val (.int .u8 0)), (.val (.int .i64 0)), (.val (.int .i64 0)), (.val (.int .i64 0))] []) 0), ⟨none, .store 4 (o_ 4) (o_ 17), none, 0, [], true, []⟩] 0)
 .ret))))⟩
def af_48 : AFun := ⟨6, [.inl 2], (.seq (.region [(oP 2 (.mov (.const (.bool false))) 0)] 0)
 (.seq (.region [(oP 3 (.mov (o_ 0)) 0), (oP 4 (.call 49 [(oc 0), (o_ 3), (oc 1000)]) 0), (oP 5 (.un .not (o_ 4)) 1), (oP 2 (.mov (o_ 5)) 1)] 1)
 .ret))⟩
def af_50 : AFun := ⟨6, [.inl 2], (.seq (.region [(oP 2 (.mov (.const (.bool false))) 0)] 0)
 (.seq (.region [(oP 3 (.mov (o_ 0)) 0), (oP 4 (.call 49 [(oc 0), (o_ 3), (oc 1000)]) 0), (oP 5 (.un .not (o_ 4)) 1), (oP 2 (.mov (o_ 5)) 1)] 1)
 .ret))⟩
def af_52 : AFun := ⟨9, [.inl 4], (.seq (.region [(oP 4 (.mov (.const (.bool false))) 0)] 0)
 (.seq (.region [(oP 5 (.mov (o_ 0)) 0), (oP 6 (.mov (o_ 1)) 0), (oP 7 (.call 66 [(o_ 5), (o_ 6)]) 0), (oP 8 (.bin false .geq (o_ 7) (oc 0)) 1), (oP 4 (.mov (o_ 8)) 1)] 1)
 .ret))⟩
def rg_54_0 : List AOper := [(oP 5 (.faddr 0 (o_ 3)) 0), (oP 6 (.load none (o_ 5)) 0), (oP 7 (.call 49 [(oc 0), (o_ 6), (oc 20)]) 0), (oP 8 (.mov (o_ 7)) 1), (oG 9 (.faddr 1 (o_ 3)) 8 true 1), (oG 10 (.load none (o_ 9)) 8 true 1), (oG 11 (.call 49 [(oc 0), (o_ 10), (oc 24)]) 8 true 1), (oP 12 (.pick (o_ 8) (o_ 11) (.const (.bool false))) 2), (oP 13 (.mov (o_ 12)) 2), (oG 14 (.faddr 2 (o_ 3)) 13 true 2), (oG 15 (.load none (o_ 14)) 13 true 2), (oG 16 (.call 49 [(oc 1), (o_ 15), (oc 24)]) 13 true 2), (oP 17 (.pick (o_ 13) (o_ 16) (.const (.bool false))) 3), (oP 18 (.mov (o_ 17)) 3), (oG 19 (.faddr 3 (o_ 3)) 18 true 3), (oG 20 (.load none (o_ 19)) 18 true 3), (oG 21 (.call 49 [(oc 0), (o_ 20), (oc 1000)]) 18 true 3), (oP 22 (.pick (o_ 18) (o_ 21) (.const (.bool false))) 4), (oP 23 (.mov (o_ 22)) 4), (oG 24 (.faddr 6 (o_ 3)) 23 true 4), (oG 25 (.load none (o_ 24)) 23 true 4), (oG 26 (.call 49 [(oc 0), (o_ 25), (oc 100)]) 23 true 4), (oP 27 (.pick (o_ 23) (o_ 26) (.const (.bool false))) 5), (oP 28 (.mov (o_ 27)) 5), (oG 29 (.faddr 4 (o_ 3)) 28 true 5), (oG 30 (.load none (o_ 29)) 28 true 5), (oG 31 (.faddr 5 (o_ 3)) 28 true 5), (oG 32 (.load none (o_ 31)) 28 true 5), (oG 33 (.call 49 [(oc 0), (o_ 30), (o_ 32)]) 28 true 5), (oP 34 (.pick (o_ 28) (o_ 33) (.const (.bool false))) 6), (oP 35 (.mov (o_ 34)) 6), (oG 36 (.faddr 5 (o_ 3)) 35 true 6), (oG 37 (.load none (o_ 36)) 35 true 6), (oG 38 (.faddr 2 (o_ 2)) 35 true 6), (oG 39 (.load none (o_ 38)) 35 true 6), (oG 40 (.len false (o_ 39)) 35 true 6), (oG 41 (.bin false .leq (o_ 37) (o_ 40)) 35 true 6), (oP 42 (.pick (o_ 35) (o_ 41) (.const (.bool false))) 6), (oP 4 (.mov (o_ 42)) 6)]
def af_54 : AFun := ⟨43, [.inl 4], (.seq (.region [(oP 2 (.box 4 (o_ 0)) 0), (oP 3 (.box 7 (o_ 1)) 1), (oP 4 (.mov (.const (.bool false))) 2)] 2)
 (.seq (.region rg_54_0 6)
 .ret))⟩
def lp_79_0 : ACode := (.seq (.region [(oP 9 (.bin false .lss (o_ 8) (o_ 7)) 0)] 0)
 (.seq (.cond (o_ 9)
 .skip
 (.exit 0))
 (.seq (.block 1 (.seq (.region [(oP 10 (.mov (o_ 8)) 0), (oP 5 (.mov (o_ 10)) 0)] 0)
 (.seq (.region [(oP 11 (.mov (o_ 1)) 0), (oP 12 (.mov (o_ 0)) 0), (oP 13 (.mov (o_ 5)) 0), (oP 14 (.iaddr 7 (o_ 12) (o_ 13)) 0), (oP 15 (.load (some 7) (o_ 14)) 0), (oP 16 (.callv (o_ 11) [(o_ 15)]) 0)] 1)
 (.cond (o_ 16)
 (.seq (.region [(oP 17 (.mov (o_ 5)) 0), (oP 4 (.mov (o_ 17)) 0)] 0)
 .ret)
 .skip))))
 (.region [(oP 18 (.bin false .add (o_ 8) (oc 1)) 0), (oP 8 (.mov (o_ 18)) 0)] 0))))
def rs_79_1 : ACode := (.seq (.region [(oP 4 (.mov (oc (-1))) 0)] 0)
 .ret)
def af_79 : AFun := ⟨19, [.inl 4], (.seq (.region [(oP 4 (.mov (oc 0)) 0)] 0)
 (.seq (.seq (.region [(oP 6 (.mov (o_ 0)) 0), (oP 7 (.len false (o_ 6)) 0), (oP 8 (.mov (oc 0)) 0)] 0)
 (.block 0 (.loop lp_79_0)))
 rs_79_1))⟩
def lp_66_0 : ACode := (.seq (.region [(oP 9 (.bin false .lss (o_ 8) (o_ 7)) 0)] 0)
 (.seq (.cond (o_ 9)
 .skip
 (.exit 0))
 (.seq (.block 1 (.seq (.region [(oP 10 (.mov (o_ 8)) 0), (oP 5 (.mov (o_ 10)) 0)] 0)
 (.seq (.region [(oP 11 (.mov (o_ 1)) 0), (oP 12 (.mov (o_ 0)) 0), (oP 13 (.mov (o_ 5)) 0), (oP 14 (.iaddr 1 (o_ 12) (o_ 13)) 0), (oP 15 (.load none (o_ 14)) 0), (oP 16 (.callv (o_ 11) [(o_ 15)]) 0)] 1)
 (.cond (o_ 16)
 (.seq (.region [(oP 17 (.mov (o_ 5)) 0), (oP 4 (.mov (o_ 17)) 0)] 0)
 .ret)
 .skip))))
 (.region [(oP 18 (.bin false .add (o_ 8) (oc 1)) 0), (oP 8 (.mov (o_ 18)) 0)] 0))))
def rs_66_1 : ACode := (.seq (.region [(oP 4 (.mov (oc (-1))) 0)] 0)
 .ret)
def af_66 : AFun := ⟨19, [.inl 4], (.seq (.region [(oP 4 (.mov (oc 0)) 0)] 0)
 (.seq (.seq (.region [(oP 6 (.mov (o_ 0)) 0), (oP 7 (.len false (o_ 6)) 0), (oP 8 (.mov (oc 0)) 0)] 0)
 (.block 0 (.loop lp_66_0)))
 rs_66_1))⟩
def rg_114_0 : List AOper := [⟨(some 5), .load none (o_ 1), none, 0, [4, 5, 6, 7, 8, 9, 10], false, []⟩, ⟨(some 6), .nilCheck (o_ 5), none, 1, [4, 5, 6, 7, 8, 9, 10], false, []⟩, ⟨(some 7), .faddr 0 (o_ 6), none, 2, [4, 5, 6, 7, 8, 9, 10], false, []⟩, ⟨(some 8), .load (some 4) (o_ 7), none, 3, [4, 5, 6, 7, 8, 9, 10], false, []⟩, ⟨(some 9), .load (some 8) (o_ 2), none, 4, [0, 1, 2, 3, 5, 6, 7, 8, 9, 10], false, []⟩, ⟨(some 10), .load none (o_ 1), none, 5, [0, 1, 2, 3, 4], false, []⟩, ⟨(some 11), .nilCheck (o_ 10), none, 6, [0, 1, 2, 3, 4], false, []⟩, ⟨(some 12), .faddr 4 (o_ 11), none, 7, [0, 1, 2, 3, 4], false, []⟩, ⟨(some 13), .load none (o_ 12), none, 8, [0, 1, 2, 3, 4], false, []⟩, (oP 14 (.mov (o_ 0)) 9), ⟨(some 15), .iaddr 8 (o_ 13) (o_ 14), none, 9, [0, 1, 2, 3, 4], false, []⟩, ⟨(some 16), .load (some 8) (o_ 15), none, 10, [0, 1, 2, 3, 4], false, []⟩, (oP 17 (.call 106 [(o_ 8), (o_ 9), (o_ 16)]) 11), (oP 4 (.mov (o_ 17)) 12)]
def af_114 : AFun := ⟨18, [.inl 4], (.seq (.region [(oP 4 (.mov (.const (.bool false))) 0)] 0)
 (.seq (.region rg_114_0 12)
 .ret))⟩
def af_115 : AFun := ⟨11, [.inl 3], (.seq (.region [(oP 3 (.mov (.const (.bool false))) 0)] 0)
 (.seq (.region [(oP 4 (.mov (o_ 0)) 0), (oP 5 (.load none (o_ 1)) 0), (oP 6 (.nilCheck (o_ 5)) 0), (oP 7 (.faddr 0 (o_ 6)) 0), (oP 8 (.faddr 0 (o_ 7)) 0), (oP 9 (.load none (o_ 8)) 0), (oP 10 (.bin false .geq (o_ 4) (o_ 9)) 0), (oP 3 (.mov (o_ 10)) 0)] 0)
 .ret))⟩
def rg_105_0 : List AOper := [(oP 3 (.faddr 7 (o_ 1)) 0), (oP 4 (.load none (o_ 3)) 0), (oP 5 (.faddr 0 (o_ 1)) 0), (oP 6 (.faddr 4 (o_ 5)) 0), (oP 7 (.load none (o_ 6)) 0), (oP 8 (.faddr 0 (o_ 1)) 0), (oP 9 (.faddr 1 (o_ 8)) 0), (oP 10 (.load none (o_ 9)) 0), (oP 11 (.bin false .add (o_ 7) (o_ 10)) 0), (oP 12 (.bin false .lss (o_ 4) (o_ 11)) 0), (oP 13 (.mov (o_ 12)) 0), (oG 14 (.faddr 7 (o_ 1)) 13 false 0), (oG 15 (.load none (o_ 14)) 13 false 0), (oG 16 (.faddr 0 (o_ 1)) 13 false 0), (oG 17 (.faddr 5 (o_ 16)) 13 false 0), (oG 18 (.load none (o_ 17)) 13 false 0), (oG 19 (.faddr 0 (o_ 1)) 13 false 0), (oG 20 (.faddr 2 (o_ 19)) 13 false 0), (oG 21 (.load none (o_ 20)) 13 false 0), (oG 22 (.bin false .sub (o_ 18) (o_ 21)) 13 false 0), (oG 23 (.bin false .gtr (o_ 15) (o_ 22)) 13 false 0), (oP 24 (.pick (o_ 13) (.const (.bool true)) (o_ 23)) 0), (oP 2 (.mov (o_ 24)) 0)]
def af_105 : AFun := ⟨25, [.inl 2], (.seq (.region [(oP 1 (.box 8 (o_ 0)) 0), (oP 2 (.mov (.const (.bool false))) 1)] 1)
 (.seq (.region rg_105_0 0)
 .ret))⟩
def rg_106_0 : List AOper := [⟨(some 17), .faddr 7 (o_ 4), none, 0, [2, 3], false, []⟩, ⟨(some 18), .load none (o_ 17), none, 1, [2, 3], false, []⟩, ⟨(some 19), .load (some 8) (o_ 5), none, 2, [0, 1], false, []⟩, ⟨(some 20), .call 99 [(o_ 19)], none, 3, [0, 1], false, []⟩, (oP 21 (.mov (o_ 7)) 4), (oP 22 (.bin false .add (o_ 20) (o_ 21)) 4), (oP 23 (.bin false .lss (o_ 18) (o_ 22)) 4), (oP 24 (.mov (o_ 23)) 4), ⟨(some 25), .faddr 7 (o_ 5), (some ((some 24), true)), 4, [6, 7], false, []⟩, ⟨(some 26), .load none (o_ 25), (some ((some 24), true)), 5, [6, 7], false, []⟩, ⟨(some 27), .load (some 8) (o_ 4), (some ((some 24), true)), 6, [4, 5], false, []⟩, ⟨(some 28), .call 99 [(o_ 27)], (some ((some 24), true)), 7, [4, 5], false, []⟩, (oG 29 (.mov (o_ 7)) 24 true 8), (oG 30 (.bin false .add (o_ 28) (o_ 29)) 24 true 8), (oG 31 (.bin false .lss (o_ 26) (o_ 30)) 24 true 8), (oP 32 (.pick (o_ 24) (o_ 31) (.const (.bool false))) 8), (oP 6 (.mov (o_ 32)) 8)]
def af_106 : AFun := ⟨33, [.inl 6], (.seq (.region [(oP 3 (.box 4 (o_ 0)) 0), (oP 4 (.box 8 (o_ 1)) 1), (oP 5 (.box 8 (o_ 2)) 2), (oP 6 (.mov (.const (.bool false))) 3)] 3)
 (.seq (.region [(oP 7 (.mov (oc 0)) 0)] 0)
 (.seq (.seq (.region [(oP 8 (.faddr 0 (o_ 4)) 0), (oP 9 (.faddr 0 (o_ 8)) 0), (oP 10 (.load none (o_ 9)) 0), (oP 11 (.faddr 0 (o_ 5)) 0), (oP 12 (.faddr 0 (o_ 11)) 0), (oP 13 (.load none (o_ 12)) 0), (oP 14 (.bin false .neq (o_ 10) (o_ 13)) 0)] 0)
 (.cond (o_ 14)
 (.region [(oP 15 (.faddr 1 (o_ 3)) 0), (oP 16 (.load none (o_ 15)) 0), (oP 7 (.mov (o_ 16)) 0)] 0)
 .skip))
 (.seq (.region rg_106_0 8)
 .ret))))⟩
def af_107 : AFun := ⟨8, [.inl 3], (.seq (.region [(oP 3 (.mov (.const (.bool false))) 0)] 0)
 (.seq (.region [(oP 4 (.mov (o_ 0)) 0), (oP 5 (.faddr 0 (o_ 1)) 0), (oP 6 (.load none (o_ 5)) 0), (oP 7 (.bin false .gtr (o_ 4) (o_ 6)) 0), (oP 3 (.mov (o_ 7)) 0)] 0)
 .ret))⟩
/-- functions by their numbers -/
inductive FT where
  | leaf
  | node (l : FT) (k : Nat) (af : AFun) (r : FT)
def FT.find : FT → Nat → Option AFun
  | .leaf, _ => none
  | .node l k af r, f => bif Nat.beq f k then some af else bif Nat.ble f k then l.find f else r.find f
def FT.Good (P : Program) : FT → Prop
  | .leaf => True
  | .node l k af r => l.Good P ∧ compF P k = some af ∧ r.Good P
theorem FT.found {P : Program} : ∀ (t : FT), t.Good P → ∀ f fn, t.find f = some fn → compF P f = some fn
  | .leaf, _, f, fn, h => by cases h
  | .node l k af r, hg, f, fn, h => by
    simp only [FT.find] at h
    cases h1 : Nat.beq f k with
    | true =>
      rw [h1] at h
      obtain rfl := Nat.eq_of_beq_eq_true h1
      cases h
      exact hg.2.1
    | false =>
      rw [h1] at h
      cases h2 : Nat.ble f k with
      | true => rw [h2] at h; exact FT.found l hg.1 f fn h
      | false => rw [h2] at h; exact FT.found r hg.2.2 f fn h
def tree : FT := (.node (.node (.node (.node (.node (.node (.node .leaf 11 af_11 .leaf) 13 af_13 .leaf) 14 af_14 (.node .leaf 15 af_15 .leaf)) 16 af_16 (.node (.node .leaf 17 af_17 .leaf) 18 af_18 (.node .leaf 21 af_21 .leaf))) 25 af_25 (.node (.node (.node .leaf 33 af_33 .leaf) 42 af_42 (.node .leaf 45 af_45 .leaf)) 46 af_46 (.node (.node .leaf 47 af_47 .leaf) 48 af_48 (.node .leaf 49 af_49 .leaf)))) 50 af_50 (.node (.node (.node (.node (.node .leaf 51 af_51 .leaf) 52 af_52 .leaf) 53 af_53 (.node .leaf 54 af_54 .leaf)) 55 af_55 (.node (.node .leaf 57 af_57 .leaf) 58 af_58 (.node .leaf 59 af_59 .leaf))) 60 af_60 (.node (.node (.node .leaf 61 af_61 .leaf) 65 af_65 (.node .leaf 66 af_66 .leaf)) 71 af_71 (.node (.node .leaf 72 af_72 .leaf) 73 af_73 (.node .leaf 74 af_74 .leaf))))) 78 af_78 (.node (.node (.node (.node (.node (.node .leaf 79 af_79 .leaf) 80 af_80 .leaf) 81 af_81 (.node .leaf 82 af_82 .leaf)) 83 af_83 (.node (.node .leaf 84 af_84 .leaf) 85 af_85 (.node .leaf 86 af_86 .leaf))) 87 af_87 (.node (.node (.node .leaf 88 af_88 .leaf) 89 af_89 (.node .leaf 90 af_90 .leaf)) 91 af_91 (.node (.node .leaf 92 af_92 .leaf) 95 af_95 (.node .leaf 96 af_96 .leaf)))) 97 af_97 (.node (.node (.node (.node .leaf 98 af_98 .leaf) 99 af_99 (.node .leaf 100 af_100 .leaf)) 101 af_101 (.node (.node .leaf 102 af_102 .leaf) 103 af_103 (.node .leaf 104 af_104 .leaf))) 105 af_105 (.node (.node (.node .leaf 106 af_106 .leaf) 107 af_107 (.node .leaf 110 af_110 .leaf)) 111 af_111 (.node (.node .leaf 112 af_112 .leaf) 114 af_114 (.node .leaf 115 af_115 .leaf))))))
end Go.Ev
