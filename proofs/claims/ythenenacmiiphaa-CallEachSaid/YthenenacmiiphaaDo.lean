/- Layer call: reading, whatever the kind. No condition. -/
import Derived.Test.YthenenacmiiphaaDn
import Derived.Test.YthenenacmiiphaaDfX
import Derived.Test.YthenenacmiiphaaDfY
import Derived.Test.YthenenacmiiphaaDfZ
import Derived.Test.YthenenacmiiphaaDf1
import Derived.Test.YthenenacmiiphaaDf2
import Derived.Test.YthenenacmiiphaaDf3
import Derived.Test.YthenenacmiiphaaDf5
import Derived.Test.YthenenacmiiphaaDf7
set_option linter.unusedVariables false
set_option linter.unusedSimpArgs false
set_option linter.deprecated false
namespace Go.Proofs.Ythenenacmiiphaa.oct
open Go Go.Proofs.Ythenenacmiiphaa.Sx
theorem told_rrdA : Sx.Told oct.Φ cRRdA := told_by allP (by
 intro p hp
 simp only [allP, List.mem_cons, List.not_mem_nil, or_false] at hp
 rcases hp with rfl | rfl | rfl | rfl | rfl | rfl | rfl | rfl
 ·exact told_rrdX
 ·exact told_rrdY
 ·exact told_rrdZ
 ·exact told_rrd1
 ·exact told_rrd2
 ·exact told_rrd3
 ·exact told_rrd5
 ·exact told_rrd7) all_kinds rfl (post_rdC _ _)
end Go.Proofs.Ythenenacmiiphaa.oct
