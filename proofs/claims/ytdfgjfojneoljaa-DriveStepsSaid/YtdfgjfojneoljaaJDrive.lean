/- What layer drive's functions answer: the texts that say it, in one. No condition of its own. -/
import Derived.Test.YtdfgjfojneoljaaJDriveC
import Derived.Test.YtdfgjfojneoljaaJDriveD
