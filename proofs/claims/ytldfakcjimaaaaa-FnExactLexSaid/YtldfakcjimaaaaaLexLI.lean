/-
  The program's Lex and the laws of it, together.
-/
import Derived.Test.YtldfakcjimaaaaaLexL
import Derived.Test.YtldfakcjimaaaaaLexI
