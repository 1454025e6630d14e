/- The union of lists of entries: the plain model; merging two, and halves. -/
import Derived.Test.YtajoncomhdimnaaGreatGbE
namespace Go.Proofs.YtajoncomhdimnaaGreat
set_option linter.unusedVariables false

def ascQ (l : List Ent) : Prop := l.Pairwise (fun a b => a.pl < b.pl)
end Go.Proofs.YtajoncomhdimnaaGreat
