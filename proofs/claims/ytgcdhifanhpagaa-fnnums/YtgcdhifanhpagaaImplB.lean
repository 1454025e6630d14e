/- impl's chapter 2: the contracts of PutNum, PutText, GetNum, GetText. -/
import Derived.Test.YtgcdhifanhpagaaRdrD
import Derived.Test.YtgcdhifanhpagaaAddB
