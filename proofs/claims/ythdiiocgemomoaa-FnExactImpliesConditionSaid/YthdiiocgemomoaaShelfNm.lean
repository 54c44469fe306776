/-
  No contract of the library's Contains is needed here.
-/
import Derived.Test.YthdiiocgemomoaaProg
