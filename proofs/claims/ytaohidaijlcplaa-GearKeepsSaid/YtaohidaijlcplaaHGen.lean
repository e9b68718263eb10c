/- Layer gen's contracts for the later layers: those of the text GGen. -/
import Derived.Test.YtaohidaijlcplaaGGen
