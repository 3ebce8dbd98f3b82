/- The base point's order, 2^252 + 27742317777372353535851937790883648493, is prime: Lucas' test down to small primes. Plain mathematics; no condition. -/
import Derived.Test.YtbkbodcncjhcmaaFermat
namespace Go.Proofs.Ytbkbodcncjhcmaa
set_option linter.unusedSimpArgs false
set_option linter.unusedVariables false

theorem pr2851 : Pr 2851 := (lucas_of 12 2851 2 [2, 3, 5, 5, 19] (by decide +kernel) (by
  intro q hq
  simp only [List.mem_cons, List.not_mem_nil, or_false] at hq
  rcases hq with rfl | rfl | rfl | rfl | rfl
  · exact pr2
  · exact pr3
  · exact pr5
  · exact pr5
  · exact pr19
  )).1
theorem pr2551 : Pr 2551 := (lucas_of 12 2551 6 [2, 3, 5, 5, 17] (by decide +kernel) (by
  intro q hq
  simp only [List.mem_cons, List.not_mem_nil, or_false] at hq
  rcases hq with rfl | rfl | rfl | rfl | rfl
  · exact pr2
  · exact pr3
  · exact pr5
  · exact pr5
  · exact pr17
  )).1
theorem pr1224481 : Pr 1224481 := (lucas_of 21 1224481 13 [2, 2, 2, 2, 2, 3, 5, 2551] (by decide +kernel) (by
  intro q hq
  simp only [List.mem_cons, List.not_mem_nil, or_false] at hq
  rcases hq with rfl | rfl | rfl | rfl | rfl | rfl | rfl | rfl
  · exact pr2
  · exact pr2
  · exact pr2
  · exact pr2
  · exact pr2
  · exact pr3
  · exact pr5
  · exact pr2551
  )).1
theorem pr73 : Pr 73 := (lucas_of 7 73 5 [2, 2, 2, 3, 3] (by decide +kernel) (by
  intro q hq
  simp only [List.mem_cons, List.not_mem_nil, or_false] at hq
  rcases hq with rfl | rfl | rfl | rfl | rfl
  · exact pr2
  · exact pr2
  · exact pr2
  · exact pr3
  · exact pr3
  )).1
theorem pr3797 : Pr 3797 := (lucas_of 12 3797 2 [2, 2, 13, 73] (by decide +kernel) (by
  intro q hq
  simp only [List.mem_cons, List.not_mem_nil, or_false] at hq
  rcases hq with rfl | rfl | rfl | rfl
  · exact pr2
  · exact pr2
  · exact pr13
  · exact pr73
  )).1
theorem pr531581 : Pr 531581 := (lucas_of 20 531581 2 [2, 2, 5, 7, 3797] (by decide +kernel) (by
  intro q hq
  simp only [List.mem_cons, List.not_mem_nil, or_false] at hq
  rcases hq with rfl | rfl | rfl | rfl | rfl
  · exact pr2
  · exact pr2
  · exact pr5
  · exact pr7
  · exact pr3797
  )).1
theorem pr1257559732178653 : Pr 1257559732178653 := (lucas_of 51 1257559732178653 2 [2, 2, 3, 7, 23, 531581, 1224481] (by decide +kernel) (by
  intro q hq
  simp only [List.mem_cons, List.not_mem_nil, or_false] at hq
  rcases hq with rfl | rfl | rfl | rfl | rfl | rfl | rfl
  · exact pr2
  · exact pr2
  · exact pr3
  · exact pr7
  · exact pr23
  · exact pr531581
  · exact pr1224481
  )).1
theorem pr4434155615661930479 : Pr 4434155615661930479 := (lucas_of 62 4434155615661930479 17 [2, 41, 43, 1257559732178653] (by decide +kernel) (by
  intro q hq
  simp only [List.mem_cons, List.not_mem_nil, or_false] at hq
  rcases hq with rfl | rfl | rfl | rfl
  · exact pr2
  · exact pr41
  · exact pr43
  · exact pr1257559732178653
  )).1
theorem pr1361 : Pr 1361 := (lucas_of 11 1361 3 [2, 2, 2, 2, 5, 17] (by decide +kernel) (by
  intro q hq
  simp only [List.mem_cons, List.not_mem_nil, or_false] at hq
  rcases hq with rfl | rfl | rfl | rfl | rfl | rfl
  · exact pr2
  · exact pr2
  · exact pr2
  · exact pr2
  · exact pr5
  · exact pr17
  )).1
theorem pr172054593956031949258510691 : Pr 172054593956031949258510691 := (lucas_of 88 172054593956031949258510691 2 [2, 5, 1361, 2851, 4434155615661930479] (by decide +kernel) (by
  intro q hq
  simp only [List.mem_cons, List.not_mem_nil, or_false] at hq
  rcases hq with rfl | rfl | rfl | rfl | rfl
  · exact pr2
  · exact pr5
  · exact pr1361
  · exact pr2851
  · exact pr4434155615661930479
  )).1
theorem pr67 : Pr 67 := (lucas_of 7 67 2 [2, 3, 11] (by decide +kernel) (by
  intro q hq
  simp only [List.mem_cons, List.not_mem_nil, or_false] at hq
  rcases hq with rfl | rfl | rfl
  · exact pr2
  · exact pr3
  · exact pr11
  )).1
theorem pr269 : Pr 269 := (lucas_of 9 269 2 [2, 2, 67] (by decide +kernel) (by
  intro q hq
  simp only [List.mem_cons, List.not_mem_nil, or_false] at hq
  rcases hq with rfl | rfl | rfl
  · exact pr2
  · exact pr2
  · exact pr67
  )).1
theorem pr307 : Pr 307 := (lucas_of 9 307 5 [2, 3, 3, 17] (by decide +kernel) (by
  intro q hq
  simp only [List.mem_cons, List.not_mem_nil, or_false] at hq
  rcases hq with rfl | rfl | rfl | rfl
  · exact pr2
  · exact pr3
  · exact pr3
  · exact pr17
  )).1
theorem pr113 : Pr 113 := (lucas_of 7 113 3 [2, 2, 2, 2, 7] (by decide +kernel) (by
  intro q hq
  simp only [List.mem_cons, List.not_mem_nil, or_false] at hq
  rcases hq with rfl | rfl | rfl | rfl | rfl
  · exact pr2
  · exact pr2
  · exact pr2
  · exact pr2
  · exact pr7
  )).1
theorem pr2939 : Pr 2939 := (lucas_of 12 2939 2 [2, 13, 113] (by decide +kernel) (by
  intro q hq
  simp only [List.mem_cons, List.not_mem_nil, or_false] at hq
  rcases hq with rfl | rfl | rfl
  · exact pr2
  · exact pr13
  · exact pr113
  )).1
theorem pr5879 : Pr 5879 := (lucas_of 13 5879 11 [2, 2939] (by decide +kernel) (by
  intro q hq
  simp only [List.mem_cons, List.not_mem_nil, or_false] at hq
  rcases hq with rfl | rfl
  · exact pr2
  · exact pr2939
  )).1
theorem pr292386187 : Pr 292386187 := (lucas_of 29 292386187 2 [2, 3, 3, 3, 3, 307, 5879] (by decide +kernel) (by
  intro q hq
  simp only [List.mem_cons, List.not_mem_nil, or_false] at hq
  rcases hq with rfl | rfl | rfl | rfl | rfl | rfl | rfl
  · exact pr2
  · exact pr3
  · exact pr3
  · exact pr3
  · exact pr3
  · exact pr307
  · exact pr5879
  )).1
theorem pr213441916511 : Pr 213441916511 := (lucas_of 38 213441916511 13 [2, 5, 73, 292386187] (by decide +kernel) (by
  intro q hq
  simp only [List.mem_cons, List.not_mem_nil, or_false] at hq
  rcases hq with rfl | rfl | rfl | rfl
  · exact pr2
  · exact pr5
  · exact pr73
  · exact pr292386187
  )).1
theorem pr19757330305831588566944191468367130476339 : Pr 19757330305831588566944191468367130476339 := (lucas_of 134 19757330305831588566944191468367130476339 2 [2, 269, 213441916511, 172054593956031949258510691] (by decide +kernel) (by
  intro q hq
  simp only [List.mem_cons, List.not_mem_nil, or_false] at hq
  rcases hq with rfl | rfl | rfl | rfl
  · exact pr2
  · exact pr269
  · exact pr213441916511
  · exact pr172054593956031949258510691
  )).1
theorem pr276602624281642239937218680557139826668747 : Pr 276602624281642239937218680557139826668747 := (lucas_of 138 276602624281642239937218680557139826668747 2 [2, 7, 19757330305831588566944191468367130476339] (by decide +kernel) (by
  intro q hq
  simp only [List.mem_cons, List.not_mem_nil, or_false] at hq
  rcases hq with rfl | rfl | rfl
  · exact pr2
  · exact pr7
  · exact pr19757330305831588566944191468367130476339
  )).1
theorem pr34123 : Pr 34123 := (lucas_of 16 34123 2 [2, 3, 11, 11, 47] (by decide +kernel) (by
  intro q hq
  simp only [List.mem_cons, List.not_mem_nil, or_false] at hq
  rcases hq with rfl | rfl | rfl | rfl | rfl
  · exact pr2
  · exact pr3
  · exact pr11
  · exact pr11
  · exact pr47
  )).1
theorem pr409477 : Pr 409477 := (lucas_of 19 409477 2 [2, 2, 3, 34123] (by decide +kernel) (by
  intro q hq
  simp only [List.mem_cons, List.not_mem_nil, or_false] at hq
  rcases hq with rfl | rfl | rfl | rfl
  · exact pr2
  · exact pr2
  · exact pr3
  · exact pr34123
  )).1
theorem pr14741173 : Pr 14741173 := (lucas_of 24 14741173 2 [2, 2, 3, 3, 409477] (by decide +kernel) (by
  intro q hq
  simp only [List.mem_cons, List.not_mem_nil, or_false] at hq
  rcases hq with rfl | rfl | rfl | rfl | rfl
  · exact pr2
  · exact pr2
  · exact pr3
  · exact pr3
  · exact pr409477
  )).1
theorem pr58964693 : Pr 58964693 := (lucas_of 26 58964693 2 [2, 2, 14741173] (by decide +kernel) (by
  intro q hq
  simp only [List.mem_cons, List.not_mem_nil, or_false] at hq
  rcases hq with rfl | rfl | rfl
  · exact pr2
  · exact pr2
  · exact pr14741173
  )).1
theorem pr30703 : Pr 30703 := (lucas_of 15 30703 3 [2, 3, 7, 17, 43] (by decide +kernel) (by
  intro q hq
  simp only [List.mem_cons, List.not_mem_nil, or_false] at hq
  rcases hq with rfl | rfl | rfl | rfl | rfl
  · exact pr2
  · exact pr3
  · exact pr7
  · exact pr17
  · exact pr43
  )).1
theorem pr79 : Pr 79 := (lucas_of 7 79 3 [2, 3, 13] (by decide +kernel) (by
  intro q hq
  simp only [List.mem_cons, List.not_mem_nil, or_false] at hq
  rcases hq with rfl | rfl | rfl
  · exact pr2
  · exact pr3
  · exact pr13
  )).1
theorem pr41081 : Pr 41081 := (lucas_of 16 41081 3 [2, 2, 2, 5, 13, 79] (by decide +kernel) (by
  intro q hq
  simp only [List.mem_cons, List.not_mem_nil, or_false] at hq
  rcases hq with rfl | rfl | rfl | rfl | rfl | rfl
  · exact pr2
  · exact pr2
  · exact pr2
  · exact pr5
  · exact pr13
  · exact pr79
  )).1
theorem pr82163 : Pr 82163 := (lucas_of 17 82163 2 [2, 41081] (by decide +kernel) (by
  intro q hq
  simp only [List.mem_cons, List.not_mem_nil, or_false] at hq
  rcases hq with rfl | rfl
  · exact pr2
  · exact pr41081
  )).1
theorem pr17231 : Pr 17231 := (lucas_of 15 17231 13 [2, 5, 1723] (by decide +kernel) (by
  intro q hq
  simp only [List.mem_cons, List.not_mem_nil, or_false] at hq
  rcases hq with rfl | rfl | rfl
  · exact pr2
  · exact pr5
  · exact pr1723
  )).1
theorem pr137849 : Pr 137849 := (lucas_of 18 137849 3 [2, 2, 2, 17231] (by decide +kernel) (by
  intro q hq
  simp only [List.mem_cons, List.not_mem_nil, or_false] at hq
  rcases hq with rfl | rfl | rfl | rfl
  · exact pr2
  · exact pr2
  · exact pr2
  · exact pr17231
  )).1
theorem pr22111 : Pr 22111 := (lucas_of 15 22111 6 [2, 3, 5, 11, 67] (by decide +kernel) (by
  intro q hq
  simp only [List.mem_cons, List.not_mem_nil, or_false] at hq
  rcases hq with rfl | rfl | rfl | rfl | rfl
  · exact pr2
  · exact pr3
  · exact pr5
  · exact pr11
  · exact pr67
  )).1
theorem pr132667 : Pr 132667 := (lucas_of 18 132667 5 [2, 3, 22111] (by decide +kernel) (by
  intro q hq
  simp only [List.mem_cons, List.not_mem_nil, or_false] at hq
  rcases hq with rfl | rfl | rfl
  · exact pr2
  · exact pr3
  · exact pr22111
  )).1
theorem pr3044861653679985063343 : Pr 3044861653679985063343 := (lucas_of 72 3044861653679985063343 5 [2, 3, 11, 30703, 82163, 132667, 137849] (by decide +kernel) (by
  intro q hq
  simp only [List.mem_cons, List.not_mem_nil, or_false] at hq
  rcases hq with rfl | rfl | rfl | rfl | rfl | rfl | rfl
  · exact pr2
  · exact pr3
  · exact pr11
  · exact pr30703
  · exact pr82163
  · exact pr132667
  · exact pr137849
  )).1
theorem pr198211423230930754013084525763697 : Pr 198211423230930754013084525763697 := (lucas_of 108 198211423230930754013084525763697 5 [2, 2, 2, 2, 3, 23, 58964693, 3044861653679985063343] (by decide +kernel) (by
  intro q hq
  simp only [List.mem_cons, List.not_mem_nil, or_false] at hq
  rcases hq with rfl | rfl | rfl | rfl | rfl | rfl | rfl | rfl
  · exact pr2
  · exact pr2
  · exact pr2
  · exact pr2
  · exact pr3
  · exact pr23
  · exact pr58964693
  · exact pr3044861653679985063343
  )).1
theorem pr7237005577332262213973186563042994240857116359379907606001950938285454250989 : Pr 7237005577332262213973186563042994240857116359379907606001950938285454250989 := (lucas_of 253 7237005577332262213973186563042994240857116359379907606001950938285454250989 2 [2, 2, 3, 11, 198211423230930754013084525763697, 276602624281642239937218680557139826668747] (by decide +kernel) (by
  intro q hq
  simp only [List.mem_cons, List.not_mem_nil, or_false] at hq
  rcases hq with rfl | rfl | rfl | rfl | rfl | rfl
  · exact pr2
  · exact pr2
  · exact pr3
  · exact pr11
  · exact pr198211423230930754013084525763697
  · exact pr276602624281642239937218680557139826668747
  )).1
def ell : Nat := 7237005577332262213973186563042994240857116359379907606001950938285454250989
theorem ell_prime : Pr ell := pr7237005577332262213973186563042994240857116359379907606001950938285454250989
end Go.Proofs.Ytbkbodcncjhcmaa
