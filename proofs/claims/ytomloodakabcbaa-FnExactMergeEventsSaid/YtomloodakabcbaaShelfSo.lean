/-
  Nothing of the library is wanted here.
-/
import Derived.Test.YtomloodakabcbaaProg
