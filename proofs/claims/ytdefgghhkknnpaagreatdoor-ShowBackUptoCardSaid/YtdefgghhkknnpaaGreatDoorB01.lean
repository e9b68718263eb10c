/- Cells of a call's own that are known, whatever a call makes behind them. No condition but what each line says. Signs of a text, by the document's words, as functions of lists of bytes. No condition. A text's signs, written out again with gaps between them: they are read as they were. No condition but what each line says. Plain facts on whole numbers for layer q: what a sum, a difference, a product, a quotient, a rest, a floored quotient and a square root are, and when they have room. No condition. -/
import Derived.Test.YtdefgghhkknnpaaGreatDoorRows
import Derived.ProofKit
import Derived.OpenShut
import Derived.WalkKit
import Derived.WalkLawsBesides
import Derived.Below
import Derived.ShutString
import Derived.ChangeOld
import Derived.Lib.MinMax
import Derived.Lib.Hide
import Derived.RegionTactic
import Derived.Deep.QuietTactic
import Derived.BigQuiet
import Derived.LoopTactic
import Derived.Deep.Cut
import Derived.Deep.CutRange
import Derived.Deep.RegionHeld3
import Derived.Deep.Grids
import Derived.StillTailTactics
import Derived.Deep.MidRow
import Derived.OrdersHeld
import Derived.Deep.RegionHeld
import Derived.Maps.AppendAt
import Derived.Deep.AppendLies
import Derived.OwnWalk
import Derived.Laws.OwnMore
import Derived.Lib.SmallJoins
import Derived.Lib.Bytes
import Derived.Lib.SlBytesConst
import Derived.Lib.Strings
import Derived.Laws.BitsAllLaws
import Derived.Shelf.Small.Bits
import Derived.Shelf.Bits.Mul64
import Derived.Test.YtdefgghhkknnpaaGreatDoorProg
import Derived.Shelf.Strings.Cut
import Derived.Shelf.Strings.Prefix
import Derived.Shelf.Strconv.Clone
import Derived.Shelf.Vars
set_option linter.unusedVariables false
set_option linter.unusedSimpArgs false
set_option maxRecDepth 100000
set_option maxHeartbeats 40000000
namespace Go.Proofs.YtdefgghhkknnpaaGreatDoor
namespace k
open ChangeShapes WideShapes ChangeAt RowKit
theorem qh {p:Prop} (h:p):Hid p:=h
theorem qq {p q:Prop} (z:Hid p) (h:p→q:=by intro z;omega):q:=h z
theorem lq0 (a:Act) (d:Tmp) (v:Value):a.put (some d) v={a with tmps:=a.tmps.setIfInBounds d v}:=rfl
theorem lq7 (a:Act) (v:Value):a.put none v=a:=rfl
theorem lq1 {α:Type} (l:List α) (i:Nat) (x:α):l.toArray.setIfInBounds i x=(l.set i x).toArray:=List.setIfInBounds_toArray ..
theorem lq2 {α:Type} (l:List α) (x y:α):(x::l).set 0 y=y::l:=rfl
theorem lq3 {α:Type} (l:List α) (n:Nat) (x y:α):(x::l).set (n+1) y=x::l.set n y:=rfl
theorem lq4 {α:Type} {xs:List α} {i:Nat} (h:i<xs.toArray.size):xs.toArray[i]=xs[i]'(by simpa using h):=List.getElem_toArray h
theorem lq5 {α:Type} (a:α) (m:List α) (i:Nat) (h:i+1<(a::m).length):(a::m)[i+1]=m[i]'(Nat.lt_of_succ_lt_succ h):=rfl
theorem lq6 {α:Type} (a:α) (m:List α) (h:0<(a::m).length):(a::m)[0]=a:=rfl
theorem btr {a b c:World} (B:Hid (Below a.heap.size a b)) (h:Below b.heap.size b c):Hid (Below a.heap.size a c):=B.out.trans (h.mono B.out.size)
theorem zbl {n:Nat} {a b:World} (Z:Hid (n<a.heap.size)) (h:Below a.heap.size a b):Hid (n<b.heap.size):=Nat.lt_of_lt_of_le Z.out h.size
theorem wf64 {a:Int} (h:(Lit.int .i64 a).wf=true):-9223372036854775808≤a∧a≤9223372036854775807:=by
  simp only [Lit.wf,IntKind.min,IntKind.max,IntKind.signed,IntKind.bits,Bool.and_eq_true,decide_eq_true_eq,if_true] at h;omega
theorem lt_of_cell {w:World} {b o:Nat} {v:Value} (h:w.cell? ⟨b,o,none⟩=some v):b<w.heap.size:=by
  rcases Nat.lt_or_ge b w.heap.size with h'|h'
  · exact h'
  · simp [World.cell?,Array.getElem?_eq_none h'] at h
theorem ret_int {k:IntKind} {a b:Int} (h:a=b):Ending.returned (.int k a)=.returned (.int k b):=by rw [h]
theorem ret_bool {a b:Bool} (h:a=b):Ending.returned (.bool a)=.returned (.bool b):=by rw [h]
def Box (w:World) (g:Nat):Nat→List Value→Prop
  | _,[]=>True
  | o,v::vs=>w.cell? ⟨g,o,none⟩=some v∧w.frozen? ⟨g,o,none⟩=false∧Box w g (o+1) vs
theorem Box.below' {w w':World} {g B:Nat} (hb:Below B w w') (hg:g<B):∀ {vs:List Value} {o:Nat},Box w g o vs→Box w' g o vs
  | [],_,_=>trivial
  | v::vs,o,h=>⟨(hb.cell (p:=⟨g,o,none⟩) hg).trans h.1,(hb.frozen (p:=⟨g,o,none⟩) hg).trans h.2.1,Box.below' hb hg h.2.2⟩
theorem Box.below {w w':World} {g B o:Nat} {vs:List Value} (h:Box w g o vs) (hb:Below B w w') (hg:g<B):Box w' g o vs:=Box.below' hb hg h
theorem Box.drawn {w:World} {g:Nat} (n:Nat):∀ {vs:List Value} {o:Nat},Box w g o vs→Box (w.drewN n) g o vs
  | [],_,_=>trivial
  | v::vs,o,h=>⟨h.1,h.2.1,Box.drawn n h.2.2⟩
theorem Box.at {w:World} {g:Nat} {o:Nat} {vs:List Value} (h:∀ i v,vs[i]?=some v→w.cell? ⟨g,o+i,none⟩=some v∧w.frozen? ⟨g,o+i,none⟩=false):Box w g o vs:=by
  induction vs generalizing o with
  | nil=>exact trivial
  | cons v vs ih=>
    refine ⟨(h 0 v rfl).1,(h 0 v rfl).2,ih fun i u hu=>?_⟩;have:=h (i+1) u (by simpa using hu);rwa [show o+(i+1)=o+1+i by omega] at this
theorem Box.new (w:World) (cs:Array Value) (t:TypeId):Box (w.alloc (.cells cs t)) w.heap.size 0 cs.toList:=Box.at fun i v hv=>by
  rw [Nat.zero_add];refine ⟨(World.cell?_alloc_mark w cs t (0,0) i).trans (by simpa using hv),?_⟩;have h:=heap_alloc_new w (.cells cs t);simp only [World.frozen?,h];simp
def puts (w:World) (g:Nat):Nat→List Value→World
  | _,[]=>w
  | o,v::vs=>puts (w.setCell ⟨g,o,none⟩ v) g (o+1) vs
theorem setCell_box {w:World} {g:Nat} (o:Nat) (x:Value):∀ {vs:List Value} {p:Nat},o<p→Box w g p vs→Box (w.setCell ⟨g,o,none⟩ x) g p vs
  | [],_,_,_=>trivial
  | v::vs,p,h,hb=>by
    refine ⟨?_,?_,setCell_box o x (by omega) hb.2.2⟩
    · have hne:¬ p=o:=by omega
      have h2:=hb.1;simp [go_sem,h2];try (intro e;omega)
    · have h2:=hb.2.1
      simp [go_sem,h2]
theorem puts_keep {w:World} {g p:Nat} {v:Value} (h:w.cell? ⟨g,p,none⟩=some v) (hf:w.frozen? ⟨g,p,none⟩=false):∀ (us:List Value) (o:Nat),p<o→(puts w g o us).cell? ⟨g,p,none⟩=some v∧(puts w g o us).frozen? ⟨g,p,none⟩=false:=by
  intro us;induction us generalizing w with
  | nil=>intro o _;exact ⟨h,hf⟩
  | cons u us ih=>
    intro o ho;refine ih (w:=w.setCell ⟨g,o,none⟩ u) ?_ ?_ (o+1) (by omega)
    · simp [go_sem,h]
      try (intro e;omega)
    · simp [go_sem,hf]
theorem Box.puts {g:Nat}:∀ {us vs:List Value} {w:World} {o:Nat},Box w g o vs→us.length=vs.length →
    Box (k.puts w g o us) g o us∧(k.puts w g o us).heap.size=w.heap.size∧∀ B,B≤g→Below B w (k.puts w g o us)
  | [],_,w,o,_,_=>⟨trivial,rfl,fun B _=>Below.refl _ _⟩
  | u::us,[],_,_,_,hl=>by simp at hl
  | u::us,v::vs,w,o,h,hl=>by
    have h1:(w.setCell ⟨g,o,none⟩ u).cell? ⟨g,o,none⟩=some u∧(w.setCell ⟨g,o,none⟩ u).frozen? ⟨g,o,none⟩=false:=by
      have a:=h.1;have b:=h.2.1;constructor<;>simp [go_sem,a,b]
    obtain ⟨i1,i2,i3⟩:=Box.puts (us:=us) (vs:=vs) (w:=w.setCell ⟨g,o,none⟩ u) (o:=o+1) (setCell_box o u (by omega) h.2.2) (by simpa using hl);have h2:=puts_keep h1.1 h1.2 us (o+1) (by omega);refine ⟨⟨h2.1,h2.2,i1⟩,by rw [show k.puts w g o (u::us)=k.puts (w.setCell ⟨g,o,none⟩ u) g (o+1) us from rfl,i2];simp,fun B hB=>(((Below.refl _ _).setCell hB _)).trans (i3 B hB)⟩
theorem below_drawn {B:Nat} {a w:World} (h:Below B a w) (n:Nat):Below B a (w.drewN n):=h.trans ⟨rfl,rfl,rfl,Nat.le_refl _,fun _ _=>rfl⟩
theorem boxes1 {w w':World} {c1:Array Value} {t1:TypeId} (hb:Below (w.alloc (.cells c1 t1)).heap.size (w.alloc (.cells c1 t1)) w') :
    Box w' w.heap.size 0 c1.toList∧Below w.heap.size w w'∧w.heap.size<w'.heap.size:=by
  have hs:(w.alloc (.cells c1 t1)).heap.size=w.heap.size+1:=by simp
  exact ⟨Box.below' hb (by omega) (Box.new w c1 t1),((Below.refl _ _).alloc (Nat.le_refl _) _).trans (hb.mono (by omega)),by have:=hb.size;omega⟩
theorem boxes2 {w w':World} {c1 c2:Array Value} {t1 t2:TypeId} (hb:Below ((w.alloc (.cells c1 t1)).alloc (.cells c2 t2)).heap.size ((w.alloc (.cells c1 t1)).alloc (.cells c2 t2)) w') :
    Box w' w.heap.size 0 c1.toList∧Box w' (w.heap.size+1) 0 c2.toList∧Below w.heap.size w w'∧w.heap.size+1<w'.heap.size:=by
  have hs:(w.alloc (.cells c1 t1)).heap.size=w.heap.size+1:=by simp
  obtain ⟨b2,h2,s2⟩:=boxes1 hb;rw [hs] at b2 s2;obtain ⟨b1,h1,s1⟩:=boxes1 (w:=w) (c1:=c1) (t1:=t1) h2;exact ⟨b1,b2,h1,s2⟩
def IsTruths (w:World) (a:Option Addr) (len cap:Nat) (V:Nat→Bool):Prop:=
  (a=none∧len=0∧cap=0)∨∃ x,a=some x∧len≤cap∧cap≤maxLen∧∀ r,r<cap→w.cell? (x.add r)=some (.bool (V r))
theorem IsTruths.row {w:World} {a:Option Addr} {len cap:Nat} {V:Nat→Bool} (h:IsTruths w a len cap V) (hp:0<len) :
    ∃ b off,a=some ⟨b,off,none⟩∧b<w.heap.size∧len≤cap∧cap≤maxLen∧∀ r,r<len→w.cell? ⟨b,off+r,none⟩=some (.bool (V r)):=by
  rcases h with ⟨_,h,_⟩|⟨x,rfl,hl,hm,hc⟩
  · omega
  · obtain ⟨b,off,spot⟩:=x
    have h0:=hc 0 (by omega);have hspot:spot=none:=by simpa [Addr.add] using World.cell?_spot h0
    subst hspot;have e:∀ r,(Addr.add ⟨b,off,none⟩ r)=⟨b,off+r,none⟩:=fun r=>by unfold Addr.add;by_cases h:r=0<;>simp [h]
    rw [e] at h0;exact ⟨b,off,rfl,lt_of_cell h0,hl,hm,fun r hr=>by have:=hc r (by omega);rw [e] at this;exact this⟩
theorem IsTruths.len {w:World} {a:Option Addr} {len cap:Nat} {V:Nat→Bool} (h:IsTruths w a len cap V):(len:Int)≤9223372036854775807:=by
  rcases h with ⟨_,h,_⟩|⟨x,_,h,h2,_⟩
  · omega
  · unfold maxLen at h2;omega
theorem Box_aside {w:World} {g g' i:Nat} (hne:g'≠g) (x:Value):∀ {vs:List Value} {o:Nat},Box w g o vs→Box (w.setCell ⟨g',i,none⟩ x) g o vs
  | [],_,_=>trivial
  | v::vs,o,h=>by
    refine ⟨?_,?_,Box_aside hne x h.2.2⟩
    · have h2:=h.1
      simp [go_sem,h2];try (intro e;exact absurd e.symm hne)
    · have h2:=h.2.1
      simp [go_sem,h2]
def Above (lo:Nat) (w w':World):Prop:=∀ b o,lo≤b→w'.cell? ⟨b,o,none⟩=w.cell? ⟨b,o,none⟩
theorem Above.refl (lo:Nat) (w:World):Above lo w w:=fun _ _ _=>rfl
theorem Above.trans {lo:Nat} {a b c:World} (h:Above lo a b) (h2:Above lo b c):Above lo a c:=fun x o hx=>(h2 x o hx).trans (h x o hx)
theorem Above.set {lo g i:Nat} {w w':World} (h:Above lo w w') (hg:g<lo) (x:Value):Above lo w (w'.setCell ⟨g,i,none⟩ x):=fun b o hb=>by
  have hne:¬ b=g:=by omega
  have hne2:¬ g=b:=by omega
  rw [←h b o hb];simp [go_sem]
theorem Above.puts {lo g:Nat} (hg:g<lo):∀ {vs:List Value} {o:Nat} {w w':World},Above lo w w'→Above lo w (k.puts w' g o vs)
  | [],_,_,_,h=>h
  | v::vs,o,_,_,h=>Above.puts hg (vs:=vs) (o:=o+1) (h.set hg v)
theorem setCells_puts (g:Nat):∀ (vs:List Value) (o:Nat) (w:World),w.setCells g o vs=k.puts w g o vs
  | [],_,_=>rfl
  | v::vs,o,w=>by rw [World.setCells,k.puts,setCells_puts g vs (o+1)]
theorem Box.there {w:World} {g:Nat}:∀ {vs:List Value} {o:Nat},Box w g o vs→w.there g o vs.length
  | [],_,_=>fun j hj=>absurd hj (by simp)
  | v::vs,o,h=>fun j hj=>by
    cases j with
    | zero=>exact ⟨by rw [Nat.add_zero,h.1];rfl,by rw [Nat.add_zero];exact h.2.1⟩
    | succ j=>
      have h1:=Box.there h.2.2 j (by simpa using hj);rw [show o+1+j=o+(j+1) by omega] at h1;exact h1
theorem Box.range {w:World} {g:Nat}:∀ {vs:List Value} {o:Nat},Box w g o vs→w.rangeAt g o vs
  | [],_,_=>fun j v hv=>absurd hv (by simp)
  | u::vs,o,h=>fun j v hv=>by
    cases j with
    | zero=>rw [Nat.add_zero,h.1];simpa using hv
    | succ j=>
      have h1:=Box.range h.2.2 j v (by simpa using hv);rw [show o+1+j=o+(j+1) by omega] at h1;exact h1
theorem setCell_before {w:World} {g:Nat} (i:Nat) (x:Value) {vs:List Value} {o:Nat} (hi:i<o) (h:Box w g o vs):Box (w.setCell ⟨g,i,none⟩ x) g o vs:=setCell_box i x hi h
theorem Box.set {w:World} {g:Nat} (x:Value):∀ {vs:List Value} {o i:Nat},Box w g o vs→i<vs.length→Box (w.setCell ⟨g,o+i,none⟩ x) g o (vs.set i x)
  | [],_,_,_,hi=>absurd hi (by simp)
  | u::vs,o,i,h,hi=>by
    cases i with
    | zero=>
      have a:=h.1;have b:=h.2.1;refine ⟨?_,?_,setCell_before o x (by omega) h.2.2⟩<;>simp [go_sem,a,b]
    | succ i=>
      have a:=h.1;have b:=h.2.1;have hr:=Box.set x (vs:=vs) (o:=o+1) (i:=i) h.2.2 (by simpa using hi);rw [show o+1+i=o+(i+1) by omega] at hr;refine ⟨?_,?_,hr⟩
      · simp [go_sem,a]
        try (intro e;omega)
      · simp [go_sem,b]
theorem Box.at' {w:World} {g:Nat}:∀ {vs:List Value} {o i:Nat} {v:Value},Box w g o vs→vs[i]?=some v→w.cell? ⟨g,o+i,none⟩=some v∧w.frozen? ⟨g,o+i,none⟩=false
  | [],_,_,_,_,h=>by simp at h
  | u::vs,o,i,v,h,hv=>by
    cases i with
    | zero=>
      have e:u=v:=by simpa using hv
      rw [Nat.add_zero,←e];exact ⟨h.1,h.2.1⟩
    | succ i=>
      have:=Box.at' (i:=i) h.2.2 (by simpa using hv);rwa [show o+1+i=o+(i+1) by omega] at this
theorem cell_of {w:World} {g:Nat} {vs:List Value} (h:Box w g 0 vs) {i:Nat} {v:Value} (hv:vs[i]?=some v):w.cell? ⟨g,i,none⟩=some v∧w.frozen? ⟨g,i,none⟩=false:=by
  have:=Box.at' h hv;rwa [Nat.zero_add] at this
theorem Box.put {w:World} {g:Nat} {vs:List Value} (h:Box w g 0 vs) (i:Nat) (hi:i<vs.length) (x:Value):Box (w.setCell ⟨g,i,none⟩ x) g 0 (vs.set i x):=by
  have:=Box.set x h hi;rwa [Nat.zero_add] at this
theorem stored {w:World} {g:Nat} {us vs:List Value} (h:Box w g 0 vs) (hl:us.length=vs.length) :
    ∃ W,w.setCells g 0 us=W∧Box W g 0 us∧W.heap.size=w.heap.size∧(∀ B,B≤g→Below B w W)∧∀ lo,g<lo→Above lo w W:=by
  obtain ⟨h1,h2,h3⟩:=Box.puts (us:=us) h hl;exact ⟨k.puts w g 0 us,setCells_puts g us 0 w,h1,h2,h3,fun lo hlo=>Above.puts hlo (Above.refl lo w)⟩
theorem results_cell {P:Program} {fn:Func} {t:Tmp} {T:TypeId} (h:fn.results=#[.cell t T]) {tmps:Array Value} {w:World} {b o:Nat} {v:Value} (ht:tmps.getD t undef=.pointer (some ⟨b,o,none⟩))
    (hl:(loadVar T ⟨b,o,none⟩).run P w=.ok v w):(results fn tmps).run P w=.ok v w:=by
  have ha:(asAddr (.pointer (some ⟨b,o,none⟩)):Sem Addr)=pure ⟨b,o,none⟩:=rfl;have ht2:tmps[t]?.getD undef=.pointer (some ⟨b,o,none⟩):=by rw [←ht];simp
  rw [results,h];simp [ht2,ha,hl]
theorem results_cell_tmp {P:Program} {fn:Func} {t u:Tmp} {T:TypeId} (h:fn.results=#[.cell t T,.tmp u]) {tmps:Array Value} {w:World} {b o:Nat} {v:Value} (ht:tmps.getD t undef=.pointer (some ⟨b,o,none⟩))
    (hl:(loadVar T ⟨b,o,none⟩).run P w=.ok v w):(results fn tmps).run P w=.ok (.tuple #[v,tmps.getD u undef]) w:=by
  have ha:(asAddr (.pointer (some ⟨b,o,none⟩)):Sem Addr)=pure ⟨b,o,none⟩:=rfl;have ht2:tmps[t]?.getD undef=.pointer (some ⟨b,o,none⟩):=by rw [←ht];simp
  rw [results,h];simp [ht2,ha,hl]
theorem Box_puts_aside {g g':Nat} (hne:g'≠g) {vs:List Value} {o:Nat}:∀ (us:List Value) (o':Nat) (w:World),Box w g o vs→Box (k.puts w g' o' us) g o vs
  | [],_,_,h=>h
  | u::us,o',w,h=>Box_puts_aside hne us (o'+1) _ (Box_aside hne u h)
theorem load_wanted {P:Program} {ops:Array Oper} {rest:List Oper} {op:Oper} {a:Act} {w:World} {Q:Exit→Act→World→Prop} (hw:Region.wanted op (yielded ops a.tmps)=true) (ty:TypeId) (x:Operand) (ho:op.op=.load ty x)
    (b o:Nat) (hx:a.eval x=.pointer (some ⟨b,o,none⟩)) (cs:List Value) (d:TypeDesc) (hc:w.rangeAt b o cs)
    (hu:P.underlying ty=some d) (hd:d.isRow=true) (hi:(P.info? ty).map (·.size)=some cs.length)
    (h:wpList P ops Q rest (a.put op.dst (.agg cs.toArray)) w):wpList P ops Q (op::rest) a w:=
  wpList_step fun K hK=>by rw [if_pos hw];exact wp_load_mid ty x ho b o hx cs d hc hu hd hi (hK _ _ h)
theorem below1 (g:Nat) (w:World) (i:Nat) (x:Value):Below g w (w.setCell ⟨g,i,none⟩ x):=(Below.refl g w).setCell (Nat.le_refl g) x
end k
namespace k
open Go
def fresh (sp:List Nat) (listed:Array Bool):Bool:=sp.all fun k=>!listed.getD k false
def waits (md:Region.Mode) (ops:Array Oper):Nat→Nat→Nat→Bool
  | 0,_,_=>false
  | f+1,k,i=>match ops[k]? with
    | none=>false
    | some o=>o.after.any fun e=>Region.binds md e&&(e.on==i||waits md ops f e.on i)
def closed (md:Region.Mode) (ops:Array Oper) (listed:Array Bool):Prop:=
  ∀ k o,ops[k]?=some o→listed.getD k false=true→∀ e∈o.after,Region.binds md e=true→listed.getD e.on false=true
def closedB (md:Region.Mode) (ops:Array Oper) (listed:Array Bool):Bool:=
  (List.range ops.size).all fun k=>!listed.getD k false||match ops[k]? with
    | none=>true
    | some o=>o.after.all fun e=>!Region.binds md e||listed.getD e.on false
section
variable {P:Program} {ops:Array Oper} {Q:Exit→Act→World→Prop} {md:Region.Mode} {T:World→Prop} {sp:List Nat}
theorem closedB_spec {listed:Array Bool} (h:closedB md ops listed=true):closed md ops listed:=fun k o ho hk e he hb=>by
  unfold closedB at h;rw [List.all_eq_true] at h;have h1:=h k (List.mem_range.2 (Array.getElem?_eq_some_iff.1 ho).1);rw [hk,ho] at h1;simp only [Bool.not_true,Bool.false_or] at h1;have h2:=Array.all_eq_true_iff_forall_mem.1 h1 e he;rw [hb] at h2;simpa using h2
theorem waits_unlisted {listed:Array Bool} (hc:closed md ops listed) {i:Nat} (hi:listed.getD i false=false):∀ (f k:Nat),waits md ops f k i=true→listed.getD k false=false
  | 0,k,h=>by cases h
  | f+1,k,h=>by
    unfold waits at h;split at h
    · cases h
    · rename_i o ho
      obtain ⟨e,he,hb⟩:=Array.any_eq_true'.1 h;rw [Bool.and_eq_true] at hb;cases hk:listed.getD k false
      · rfl
      · have h1:=hc k o ho hk e he hb.1
        have h2:=hb.2;rw [Bool.or_eq_true,beq_iff_eq] at h2;rcases h2 with h2|h2
        · rw [h2,hi] at h1;cases h1
        · rw [waits_unlisted hc hi f e.on h2] at h1;cases h1
theorem getD_ft {listed:Array Bool} {i:Nat} (h:listed.getD i true=false):listed.getD i false=false:=by
  rcases Nat.lt_or_ge i listed.size with h'|h'
  · simp [h'] at h ⊢;exact h
  · simp [Array.getElem?_eq_none h'] at h
theorem closed_set {listed:Array Bool} (hc:closed md ops listed) {j:Nat} (hj:j∈Region.ready md ops listed):closed md ops (listed.setIfInBounds j true):=fun k o ho hk e he hb=>by
  obtain ⟨h0,oj,hoj,hall⟩:=mem_ready.1 hj;by_cases hkj:j=k
  · subst hkj
    rw [hoj] at ho;injection ho with ho
    subst ho;exact getD_set_true (hall e he hb)
  · rw [getD_set_ne false hkj] at hk
    exact getD_set_true (hc k o ho hk e he hb)
theorem fresh_set {listed:Array Bool} {i:Nat} (hi:sp.all (fun k=>!(k==i))=true) (h:fresh sp listed=true):fresh sp (listed.setIfInBounds i true)=true:=by
  unfold fresh at *;rw [List.all_eq_true] at *;intro k hk;have h1:=hi k hk;have h2:=h k hk;rw [getD_set_ne false (fun e=>by subst e;simp at h1)];exact h2
def wpAnyT (P:Program) (md:Region.Mode) (ops:Array Oper) (Q:Exit→Act→World→Prop) (T:World→Prop) (sp:List Nat):Nat→Array Bool→Act→World→Prop
  | 0,listed,a,w=>Region.ready md ops listed=[]∧Q .normal a w
  | fuel+1,listed,a,w=>
    (Region.ready md ops listed=[]→Q .normal a w) ∧
    ∀ i∈Region.ready md ops listed,wpOp P ops Q i (fun a' w'=>(fresh sp (listed.setIfInBounds i true)=true→T w')∧wpAnyT P md ops Q T sp fuel (listed.setIfInBounds i true) a' w') a w
theorem wpAny_of_T:∀ (fuel:Nat) (listed:Array Bool) (a:Act) (w:World),wpAnyT P md ops Q T sp fuel listed a w→wpAny P md ops Q fuel listed a w
  | 0,_,_,_,h=>h
  | fuel+1,_,_,_,h=>⟨h.1,fun i hi=>wpOp_mono (fun a' w' h'=>wpAny_of_T fuel _ a' w' h'.2) (h.2 i hi)⟩
theorem wpAnyT_first {i:Nat} {oi:Oper} {v:Value} (hi:ops[i]?=some oi) (hsel:∀ (j:Nat) (o:Oper) cs b,ops[j]?=some o→o.op≠.select cs b)
    (hQ:∀ c a w,Q (.panic c) (a.put oi.dst v) w→Q (.panic c) a w) (hw:∀ k∈sp,∃ f,waits md ops f k i=true) (hne:sp.all (fun k=>!(k==i))=true) :
    ∀ (fuel:Nat) (listed:Array Bool) (a:Act) (w:World),closed md ops listed →
      (∀ j oj,ops[j]?=some oj→j≠i→listed.getD j true=false→(∀ e∈oj.after,Region.binds md e=true→e.on≠i)→oi.apart ops oj=true) →
      i∈Region.ready md ops listed→YieldsIf P ops T oi v a→T w →
      wpAnyT P md ops Q T sp fuel (listed.setIfInBounds i true) (a.put oi.dst v) w→wpAnyT P md ops Q T sp (fuel+1) listed a w:=by
  intro fuel;induction fuel with
  | zero=>
    intro listed a w _ _ hr hy hT H;refine ⟨fun h=>(by rw [h] at hr;cases hr),fun j hj=>?_⟩;by_cases hji:j=i
    · subst hji;exact hy.wpOp hi hT ⟨fun _=>hT,H⟩
    · have:=ready_mono hj hji
      rw [H.1] at this;cases this
  | succ fuel ih=>
    intro listed a w hcl hfree hr hy hT H;refine ⟨fun h=>(by rw [h] at hr;cases hr),fun j hj=>?_⟩;by_cases hji:j=i
    · subst hji;exact hy.wpOp hi hT ⟨fun _=>hT,H⟩
    · have h1:=H.2 j (ready_mono hj hji)
      obtain ⟨hjun,oj,hoj,hall⟩:=mem_ready.1 hj;have hiun:=(mem_ready.1 hr).1;have hnot:∀ e∈oj.after,Region.binds md e=true→e.on≠i:=fun e he hb heq=>by
        have h1:=hall e he hb;rw [heq,getD_ft hiun] at h1;cases h1
      have h2:=wpOp_putIf hoj (hfree j oj hoj hji hjun hnot) (fun cs b=>hsel i oi cs b hi) (fun cs b=>hsel j oj cs b hoj) hQ hy h1;have hfree':∀ k ok,ops[k]?=some ok→k≠i→(listed.setIfInBounds j true).getD k true=false →
          (∀ e∈ok.after,Region.binds md e=true→e.on≠i)→oi.apart ops ok=true:=fun k ok hk hki hun hno=>by
        refine hfree k ok hk hki ?_ hno;by_cases hjk:j=k
        · subst hjk;exact hjun
        · rw [getD_set_ne true hjk] at hun;exact hun
      have hcl':=closed_set hcl hj;have hi':(listed.setIfInBounds j true).getD i false=false:=by rw [getD_set_ne false hji];exact getD_ft hiun
      have hfr:fresh sp (listed.setIfInBounds j true)=true:=by
        unfold fresh;rw [List.all_eq_true];intro k hk;obtain ⟨f,hf⟩:=hw k hk;rw [waits_unlisted hcl' hi' f k hf];rfl
      refine wpOp_mono (fun a' w' h3=>?_) h2;have h4:=h3.2;rw [Array.setIfInBounds_comm _ _ (Ne.symm hji)] at h4;have hT':T w':=h4.1 (fresh_set hne hfr);exact ⟨fun _=>hT',ih (listed.setIfInBounds j true) a' w' hcl' hfree' (ready_mono hr (Ne.symm hji)) h3.1 hT' h4.2⟩
theorem wpAnyT_take {i:Nat} {oi:Oper} {v:Value} {fuel:Nat} {listed:Array Bool} {a:Act} {w:World} (hi:ops[i]?=some oi)
    (hs:Region.noSelect ops=true) (hf:(Region.free md ops listed i&&closedB md ops listed&&(sp.all fun k=>waits md ops ops.size k i&&!(k==i)))=true) (hr:(Region.ready md ops listed).contains i=true)
    (hQ:∀ c a w,Q (.panic c) (a.put oi.dst v) w→Q (.panic c) a w) (hy:YieldsIf P ops T oi v a) (hT:T w)
    (h:wpAnyT P md ops Q T sp fuel (listed.setIfInBounds i true) (a.put oi.dst v) w):wpAnyT P md ops Q T sp (fuel+1) listed a w:=by
  rw [Bool.and_eq_true,Bool.and_eq_true] at hf;obtain ⟨⟨h1,h2⟩,h3⟩:=hf;rw [List.all_eq_true] at h3;refine wpAnyT_first hi (Region.noSelect_spec hs) hQ (fun k hk=>⟨ops.size,?_⟩) ?_ fuel listed a w (closedB_spec h2) (Region.free_spec hi h1) (by simpa using hr) hy hT h
  · have:=h3 k hk
    rw [Bool.and_eq_true] at this;exact this.1
  · rw [List.all_eq_true]
    intro k hk;have:=h3 k hk;rw [Bool.and_eq_true] at this;exact this.2
theorem tkq {i:Nat} {oi:Oper} {v:Value} {fuel:Nat} {listed:Array Bool} {a:Act} {w:World} (hi:ops[i]?=some oi) (hy:∀ w,T w→(execOp a.eval oi).run P w=.ok (.value v) w)
    (h:wpAnyT P md ops Q T sp fuel (listed.setIfInBounds i true) (a.put oi.dst v) w)
    (hs:Region.noSelect ops=true:=by kernel_rfl) (hf:(Region.free md ops listed i&&closedB md ops listed&&(sp.all fun k=>waits md ops ops.size k i&&!(k==i)))=true:=by kernel_rfl) (hr:(Region.ready md ops listed).contains i=true:=by kernel_rfl)
    (hQ:∀ c a w,Q (.panic c) (a.put oi.dst v) w→Q (.panic c) a w:=by exact fun _ _ _ h=>h) (hw:Region.wanted oi (yielded ops a.tmps)=true:=by rfl) (hT:T w:=by assumption):wpAnyT P md ops Q T sp (fuel+1) listed a w:=
  wpAnyT_take hi hs hf hr hQ (Or.inl ⟨hw,hy⟩) hT h
theorem tkr {i:Nat} {oi:Oper} {v:Value} {fuel:Nat} {listed:Array Bool} {a:Act} {w:World} (hi:ops[i]?=some oi)
 (h:wpAnyT P md ops Q T sp fuel (listed.setIfInBounds i true) (a.put oi.dst v) w)
 (hy:∀ w,T w→(execOp a.eval oi).run P w=.ok (.value v) w:=by (intro w_ hSw;clear hSw;go_simp<;>(with_reducible rfl)))
 (hs:Region.noSelect ops=true:=by kernel_rfl) (hf:(Region.free md ops listed i&&closedB md ops listed&&(sp.all fun k=>waits md ops ops.size k i&&!(k==i)))=true:=by kernel_rfl) (hr:(Region.ready md ops listed).contains i=true:=by kernel_rfl)
 (hQ:∀ c a w,Q (.panic c) (a.put oi.dst v) w→Q (.panic c) a w:=by exact fun _ _ _ h=>h) (hw:Region.wanted oi (yielded ops a.tmps)=true:=by rfl) (hT:T w:=by assumption):wpAnyT P md ops Q T sp (fuel+1) listed a w:=
 tkq hi hy h hs hf hr hQ hw hT
def AllReadyT (P:Program) (md:Region.Mode) (ops:Array Oper) (Q:Exit→Act→World→Prop) (T:World→Prop) (sp:List Nat) (fuel:Nat) (listed:Array Bool) (a:Act) (w:World) (rs:List Nat):Prop:=
  ∀ i∈rs,wpOp P ops Q i (fun a' w'=>(fresh sp (listed.setIfInBounds i true)=true→T w')∧wpAnyT P md ops Q T sp fuel (listed.setIfInBounds i true) a' w') a w
theorem AllReadyT.nil {fuel:Nat} {listed:Array Bool} {a:Act} {w:World}:AllReadyT P md ops Q T sp fuel listed a w []:=fun _ h=>by cases h
theorem AllReadyT.cons {fuel:Nat} {listed:Array Bool} {a:Act} {w:World} {i:Nat} {o:Oper} {rs:List Nat} (ho:ops[i]?=some o)
    (h:∀ K':Act→World→Prop,Shut (∀ a w,T w→(T w→wpAnyT P md ops Q T sp fuel (listed.setIfInBounds i true) a w)→K' a w)→if Region.wanted o (yielded ops a.tmps)=true then Oper.wp P o a w K' Q else K' (a.put o.dst undef) w)
    (hs:AllReadyT P md ops Q T sp fuel listed a w rs):AllReadyT P md ops Q T sp fuel listed a w (i::rs):=fun j hj=>by
  rcases List.mem_cons.1 hj with rfl|hj
  · exact wpOp_step ho (fun K' hK=>h K' (fun a w hT hW=>hK a w ⟨fun _=>hT,hW hT⟩))
  · exact hs j hj
theorem AllReadyT.spoilt {fuel:Nat} {listed:Array Bool} {a:Act} {w:World} {i:Nat} {o:Oper} {rs:List Nat} (ho:ops[i]?=some o) (hf:fresh sp (listed.setIfInBounds i true)=false)
    (h:∀ K':Act→World→Prop,Shut (∀ a w,wpAnyT P md ops Q T sp fuel (listed.setIfInBounds i true) a w→K' a w)→if Region.wanted o (yielded ops a.tmps)=true then Oper.wp P o a w K' Q else K' (a.put o.dst undef) w)
    (hs:AllReadyT P md ops Q T sp fuel listed a w rs):AllReadyT P md ops Q T sp fuel listed a w (i::rs):=fun j hj=>by
  rcases List.mem_cons.1 hj with rfl|hj
  · exact wpOp_step ho (fun K' hK=>h K' (fun a w hW=>hK a w ⟨fun h2=>absurd (hf.symm.trans h2) (by simp),hW⟩))
  · exact hs j hj
theorem wpAnyT_ready {rs:List Nat} {fuel:Nat} {listed:Array Bool} {a:Act} {w:World} (hr:Region.ready md ops listed=rs) (hne:rs≠[])
    (h:AllReadyT P md ops Q T sp fuel listed a w rs):wpAnyT P md ops Q T sp (fuel+1) listed a w:=
  ⟨fun h0=>absurd (hr ▸ h0) hne,hr ▸ h⟩
theorem wpAnyT_done {listed:Array Bool} {a:Act} {w:World} (hr:Region.ready md ops listed=[]) (h:Q .normal a w):∀ fuel,wpAnyT P md ops Q T sp fuel listed a w
  | 0=>⟨hr,h⟩
  | _+1=>⟨fun _=>h,by rw [hr];simp⟩
theorem wp_region_T {id:Nat} {a:Act} {w:World} (hm:P.follows .mixedOrders=true) (T:World→Prop) (sp:List Nat) (hT:T w.drew)
    (h:T w.drew→wpAnyT P .any ops Q T sp ops.size (Array.replicate ops.size false) a w.drew):(Code.region id ops true).wp P Q a w:=
  wp_region_any hm (wpAny_of_T _ _ _ _ (h hT))
def left (n:Nat) (listed:Array Bool):Nat:=(List.range n).countP fun i=>!listed.getD i true
end
end k
namespace rr
open ChangeShapes WideShapes ChangeAt RowKit Joins k
section
variable {α:Type} (enc:α→List Value) (z:Nat)
theorem flat_len (hz:∀ x,(enc x).length=z) (L:List α):(L.flatMap enc).length=L.length*z:=by
  induction L with
  | nil=>simp
  | cons x L ih=>rw [List.flatMap_cons,List.length_append,hz,ih,List.length_cons,Nat.succ_mul,Nat.add_comm]
theorem flat_at (hz:∀ x,(enc x).length=z):∀ (L:List α) (i f:Nat) (x:α),L[i]?=some x→f<z→(L.flatMap enc)[i*z+f]?=(enc x)[f]?
  | [],i,f,x,h,_=>by simp at h
  | y::L,0,f,x,h,hf=>by
    have e:y=x:=by simpa using h
    rw [List.flatMap_cons,Nat.zero_mul,Nat.zero_add,List.getElem?_append_left (by rw [hz];exact hf),e]
  | y::L,i+1,f,x,h,hf=>by
    rw [List.flatMap_cons,List.getElem?_append_right (by rw [hz,Nat.succ_mul];omega),hz,show (i+1)*z+f-z=i*z+f by rw [Nat.succ_mul];omega];exact flat_at hz L i f x (by simpa using h) hf
theorem flat_inv (hz:∀ x,(enc x).length=z) (hp:0<z) (L:List α) (j:Nat) (u:Value) (h:(L.flatMap enc)[j]?=some u):∃ x,L[j / z]?=some x∧(enc x)[j % z]?=some u:=by
  have hj:j<L.length*z:=by
    have h1:j<(L.flatMap enc).length:=(List.getElem?_eq_some_iff.1 h).1;rwa [flat_len enc z hz] at h1
  have hi:j / z<L.length:=(Nat.div_lt_iff_lt_mul hp).2 hj;refine ⟨L[j / z],List.getElem?_eq_getElem hi,?_⟩;rw [←flat_at enc z hz L (j / z) (j % z) _ (List.getElem?_eq_getElem hi) (Nat.mod_lt _ hp),Nat.mul_comm,Nat.div_add_mod,h]
def Rd (w:World) (B:Nat) (A:Option Addr) (n cap:Nat) (L:List α):Prop:=
  L.length=n∧n≤cap∧cap≤maxLen∧(A=none→cap=0)∧(0<n→∃ b off,A=some ⟨b,off,none⟩∧b<B∧∀ i x,L[i]?=some x→w.rangeAt b (off+i*z) (enc x))
def Ow (t:TypeId) (w:World) (base:Nat) (v:Value) (L:List α):Prop:=w.ownsRow base t z v L.length (L.flatMap enc)
end
section
variable {α:Type} {enc:α→List Value} {z:Nat} {w w':World} {B:Nat} {A:Option Addr} {n cap:Nat} {L:List α}
theorem range_below {b o:Nat} {vs:List Value} (h:w.rangeAt b o vs) (hb:Below B w w') (hB:b<B):w'.rangeAt b o vs:=fun j v hv=>(hb.cell (p:=⟨b,o+j,none⟩) hB).trans (h j v hv)
theorem Rd.below (h:Rd enc z w B A n cap L) (hb:Below B w w'):Rd enc z w' B A n cap L:=
  ⟨h.1,h.2.1,h.2.2.1,h.2.2.2.1,fun hn=>by
    obtain ⟨b,off,e,hB,hc⟩:=h.2.2.2.2 hn;exact ⟨b,off,e,hB,fun i x hx=>range_below (hc i x hx) hb hB⟩⟩
theorem Rd.more {B':Nat} (h:Rd enc z w B A n cap L) (hB:B≤B'):Rd enc z w B' A n cap L:=
  ⟨h.1,h.2.1,h.2.2.1,h.2.2.2.1,fun hn=>by
    obtain ⟨b,off,e,hb,hc⟩:=h.2.2.2.2 hn;exact ⟨b,off,e,by omega,hc⟩⟩
theorem Rd.len_le (h:Rd enc z w B A n cap L):(n:Int)≤9223372036854775807:=by
  have h1:=h.2.1;have h2:=h.2.2.1;unfold maxLen at h2;omega
theorem Rd.at (h:Rd enc z w B A n cap L) {i:Nat} (hi:i<n):∃ b off x,A=some ⟨b,off,none⟩∧b<B∧L[i]?=some x∧w.rangeAt b (off+i*z) (enc x):=by
  obtain ⟨b,off,e,hb,hc⟩:=h.2.2.2.2 (by omega);have hl:i<L.length:=by rw [h.1];exact hi
  exact ⟨b,off,L[i],e,hb,List.getElem?_eq_getElem hl,hc i _ (List.getElem?_eq_getElem hl)⟩
theorem Rd.none_ (enc:α→List Value) (z:Nat) (w:World) (B:Nat):Rd enc z w B none 0 0 []:=⟨rfl,Nat.le_refl _,by unfold maxLen;omega,fun _=>rfl,fun h=>absurd h (by omega)⟩
theorem Rd.drewN (h:Rd enc z w B A n cap L) (q:Nat):Rd enc z (w.drewN q) B A n cap L:=h
variable {t:TypeId} {base:Nat} {v:Value}
theorem Ow.form (hz:∀ x,(enc x).length=z) (h:Ow enc z t w base v L):∃ A cap,v=.slice A L.length cap∧Rd enc z w w.heap.size A L.length cap L:=by
  rcases h.2 with ⟨rfl,h0⟩|⟨g,cap,cur,rfl,hb,hg,hle,hmax,hcs,htake⟩
  · exact ⟨none,0,by rw [h0],rfl,by omega,by unfold maxLen;omega,fun _=>rfl,fun hn=>absurd hn (by omega)⟩
  · refine ⟨_,cap,rfl,rfl,hle,hmax,(fun h=>by cases h),fun hn=>⟨g,0,rfl,(Array.getElem?_eq_some_iff.1 hg).1,fun i x hx f u hu=>?_⟩⟩
    have hf:f<z:=by have:=(List.getElem?_eq_some_iff.1 hu).1;rwa [hz] at this
    have hc:=World.ownsRow.cells (g:=g) h rfl (i*z+f) u (by rw [flat_at enc z hz L i f x hx hf,hu]);have e:(Addr.add ⟨g,0,none⟩ (i*z+f))=⟨g,0+i*z+f,none⟩:=by
      unfold Addr.add;by_cases h:i*z+f=0<;>simp [h];omega
    rw [e] at hc;exact hc
theorem Ow.kept {row:Option Nat} (h:Ow enc z t w base v L) (hg:w.grownBy w' row) (hne:v.ownBlock=none∨v.ownBlock≠row):Ow enc z t w' base v L:=World.ownsRow.kept h hg hne
theorem Ow.under (hO:Ow enc z t w base v L) (hb:Below w.heap.size w w'):Ow enc z t w' base v L:=
  hO.kept (row:=.none) ⟨hb.os,hb.tape,hb.output,hb.size,fun k hk _=>hb.block k hk⟩ (by cases v.ownBlock<;>simp)
theorem Ow.drewN (h:Ow enc z t w base v L) (q:Nat):Ow enc z t (w.drewN q) base v L:=h
theorem Ow.lays {a:World} (hO:Ow enc z t w base v L) (h:Below B a w) (hB:B≤base) (hz:B≤a.heap.size) (hg:w.grownBy w' v.ownBlock):Below B a w':=
  h.grown hg (Nat.le_trans hz h.size) fun b hb=>Nat.le_trans hB (hO.lt b hb).1
theorem Ow.nil (enc:α→List Value) (z:Nat) (t:TypeId) (w:World) (base:Nat):Ow enc z t w base (.slice none 0 0) []:=World.ownsRow_nil _ _ _ _
end
theorem Ow.base {α:Type} {enc:α→List Value} {z:Nat} {w:World} {t:TypeId} {b b':Nat} {v:Value} {L:List α} (h:Ow enc z t w b v L) (hb:b'≤b):Ow enc z t w b' v L:=ownsRow_le h hb
theorem info_parts {P:Program} {t:TypeId} {zv:Value} {size bytes:Nat} (h:(P.info? t).map (fun i=>(i.zero,i.size,i.bytes))=some (some zv,size,bytes)):∃ i,P.info? t=some i∧i.zero=some zv∧i.size=size∧i.bytes=bytes:=by
  cases hi:P.info? t with
  | none=>rw [hi] at h;cases h
  | some i=>
    rw [hi] at h;simp only [Option.map_some,Option.some.injEq,Prod.mk.injEq] at h;exact ⟨i,rfl,h.1,h.2.1,h.2.2⟩
section
variable {P:Program} {α:Type} {enc:α→List Value} {z:Nat}
theorem append_row (hz:∀ x,(enc x).length=z) (hp:0<z) (h1:∀ x,∀ u∈enc x,u.oneCell'=true) {t e:TypeId} {zv:Value} {bytes:Nat} (ht:P.underlying t=some (.slice e)) (hi:(P.info? e).map (fun i=>(i.zero,i.size,i.bytes))=some (some zv,z,bytes))
    (hzs:zv.cells.size=z) (hby:bytes≤10000) (w:World) (base ty:Nat) (v:Value) (l:List α) (hown:Ow enc z e w base v l) (B:Nat) (A:Option Addr) (n cap:Nat) (k:List α)
    (hk:Rd enc z w B A n cap k) (hlen:l.length+k.length≤60000) (hbase:base≤w.heap.size) :
    ∃ v' w',(Builtin.append_ #[t,t] ty #[v,.slice A n cap]).run P w=.ok v' w'∧Ow enc z e w' base v' (l++k)∧w.grownBy w' v.ownBlock ∧
      (v'.ownBlock=v.ownBlock∨v'.ownBlock=some w.heap.size):=by
  obtain ⟨i0,hi0,hz0,hz1,hz2⟩:=info_parts hi;have hkl:=hk.1;subst hkl;cases A with
  | none=>
    have h2:=hk.2.2.2.1 rfl;have h3:k.length=0:=by have:=hk.2.1;omega
    have hk0:k=[]:=List.eq_nil_of_length_eq_zero h3;subst hk0 h2;exact ⟨v,w,run_append_owned_none (P:=P) (w:=w) base t ty e i0 z ht hi0 v _ _ hown,by simpa using hown,World.grownBy.refl w _,.inl rfl⟩
  | some ad=>
    have hcells:∀ j u,(k.flatMap enc)[j]?=some u→w.cell? (ad.add j)=some u:=by
      intro j u hu;obtain ⟨x,hx,hu2⟩:=flat_inv enc z hz hp k j u hu;have hj:0<k.length:=Nat.lt_of_le_of_lt (Nat.zero_le _) (List.getElem?_eq_some_iff.1 hx).1;obtain ⟨b,off,e,hb,hc⟩:=hk.2.2.2.2 hj;injection e with e
      subst e;have e1:(Addr.add ⟨b,off,none⟩ j)=⟨b,off+j / z*z+j % z,none⟩:=by
        have e2:off+j / z*z+j % z=off+j:=by rw [Nat.add_assoc,Nat.mul_comm,Nat.div_add_mod]
        rw [e2];unfold Addr.add;by_cases h:j=0<;>simp [h]
      rw [e1];exact hc _ x hx _ u hu2
    obtain ⟨v',w',hrun,h2,h3,_,h5⟩:=run_append_own_at (P:=P) w base t ty e i0 zv z bytes ht hi0 hz0 hz1 hz2 hzs hp v l.length _ hown ad k.length cap _
      (flat_len enc z hz k) hcells (by intro u hu;obtain ⟨x,_,hx⟩:=List.mem_flatMap.1 hu;exact h1 x u hx) (by unfold maxLen;omega) (by
        have:(l.length+k.length)*bytes≤60000*10000:=Nat.mul_le_mul hlen hby;omega) hbase
    refine ⟨v',w',hrun,?_,h3,h5⟩;unfold Ow;rw [List.flatMap_append,List.length_append];exact h2
theorem wpList_append_row (hz:∀ x,(enc x).length=z) (hp:0<z) (h1:∀ x,∀ u∈enc x,u.oneCell'=true) {t e:TypeId} {zv:Value} {bytes:Nat} (ht:P.underlying t=some (.slice e)) (hi:(P.info? e).map (fun i=>(i.zero,i.size,i.bytes))=some (some zv,z,bytes))
    (hzs:zv.cells.size=z) (hby:bytes≤10000) (w:World) {ops:Array Oper} {rest:List Oper} {o:Oper} {a:Act} {Q:Exit→Act→World→Prop} (hgd:o.guard=none) (s x:Operand)
    (ho:o.op=.call {callee:=.builtin .append,args:=#[s,x],argTypes:=#[t,t]})
    (base:Nat) (v:Value) (l:List α) (hs:a.eval s=v) (hown:Ow enc z e w base v l) (B:Nat) (A:Option Addr) (n cap:Nat) (k:List α) (hx:a.eval x=.slice A n cap)
    (hk:Rd enc z w B A n cap k) (hlen:l.length+k.length≤60000) (hbase:base≤w.heap.size)
    (h:∀ v' w',Ow enc z e w' base v' (l++k)→w.grownBy w' v.ownBlock→(v'.ownBlock=v.ownBlock∨v'.ownBlock=some w.heap.size)→wpList P ops Q rest (a.put o.dst v') w') :
    wpList P ops Q (o::rest) a w:=by
  refine wpList_plain hgd fun K hK=>?_
  obtain ⟨v',w',hr,h2,h3,h4⟩:=append_row hz hp h1 ht hi hzs hby w base o.type v l hown B A n cap k hk hlen hbase;unfold Oper.wp execOp;simp only [ho,resolve,invoke,builtin,Sem.run_bind,Sem.run_pure,Result.andThen_ok,List.map_toArray,List.map_cons,List.map_nil,hs,hx,hr];exact hK _ _ (h v' w' h2 h3 h4)
theorem step_append_row (hz:∀ x,(enc x).length=z) (hp:0<z) (h1:∀ x,∀ u∈enc x,u.oneCell'=true) {t e:TypeId} {zv:Value} {bytes:Nat} (ht:P.underlying t=some (.slice e)) (hi:(P.info? e).map (fun i=>(i.zero,i.size,i.bytes))=some (some zv,z,bytes))
    (hzs:zv.cells.size=z) (hby:bytes≤10000) (w:World) {ops:Array Oper} {o:Oper} {a:Act} {K:Act→World→Prop} {Q:Exit→Act→World→Prop} {E:Prop} (hgd:o.guard=none) (s x:Operand)
    (ho:o.op=.call {callee:=.builtin .append,args:=#[s,x],argTypes:=#[t,t]})
    (base:Nat) (v:Value) (l:List α) (hs:a.eval s=v) (hown:Ow enc z e w base v l) (B:Nat) (A:Option Addr) (n cap:Nat) (k:List α) (hx:a.eval x=.slice A n cap)
    (hk:Rd enc z w B A n cap k) (hlen:l.length+k.length≤60000) (hbase:base≤w.heap.size)
    (h:∀ v' w',Ow enc z e w' base v' (l++k)→w.grownBy w' v.ownBlock→(v'.ownBlock=v.ownBlock∨v'.ownBlock=some w.heap.size)→K (a.put o.dst v') w') :
    if Region.wanted o (yielded ops a.tmps)=true then Oper.wp P o a w K Q else E:=by
  have hw:Region.wanted o (yielded ops a.tmps)=true:=by simp [Region.wanted,hgd]
  rw [if_pos hw];obtain ⟨v',w',hr,h2,h3,h4⟩:=append_row hz hp h1 ht hi hzs hby w base o.type v l hown B A n cap k hk hlen hbase;unfold Oper.wp execOp;simp only [ho,resolve,invoke,builtin,Sem.run_bind,Sem.run_pure,Result.andThen_ok,List.map_toArray,List.map_cons,List.map_nil,hs,hx,hr];exact h v' w' h2 h3 h4
theorem one_row (w:World) (e:TypeId) (x:α) (cs:Array Value) (hc:cs.toList=enc x):Rd enc z (w.alloc (.cells cs e)) (w.heap.size+1) (some ⟨w.heap.size,0,none⟩) 1 1 [x]:=
  ⟨rfl,Nat.le_refl _,by unfold maxLen;omega,(fun h=>by cases h),fun _=>⟨_,0,rfl,by omega,fun i y hy j u hu=>by
    have hi:i=0:=by
      rcases Nat.lt_or_ge i 1 with h|h
      · omega
      · rw [List.getElem?_eq_none (by simpa using h)] at hy;cases hy
    subst hi;have e1:x=y:=by simpa using hy
    subst e1;simp only [Nat.zero_mul,Nat.zero_add];rw [World.cell?_alloc_mark,←hu,←hc];simp⟩⟩
end
end rr
namespace tk
open ChangeShapes WideShapes ChangeAt RowKit k rr
structure Tk where
 kind:Int
 text:List UInt8
 n:Int
 line:Nat
 col:Nat
def tC (t:Tk):List Value:=[.int .i64 t.kind,.string ⟨t.text.toArray⟩,.int .i64 t.n,.int .i64 t.line,.int .i64 t.col]
theorem tC_len (t:Tk):(tC t).length=5:=rfl
theorem tC_one (t:Tk):∀ u∈tC t,u.oneCell'=true:=by
 intro u hu;simp only [tC,List.mem_cons,List.not_mem_nil,or_false] at hu;rcases hu with rfl|rfl|rfl|rfl|rfl<;>rfl
def stepP (p:Nat×Nat) (b:UInt8):Nat×Nat:=if b=10 then (p.1+1,1) else (p.1,p.2+1)
def plc (l:List UInt8):Nat×Nat:=l.foldl stepP (1,1)
def plAt (s r:List UInt8):Nat×Nat:=plc (s.take (s.length-r.length))
def alphaB (c:UInt8):Bool:=(65≤c&&c≤90)||(97≤c&&c≤122)
def numB (c:UInt8):Bool:=48≤c&&c≤57
def bodyB (c:UInt8):Bool:=alphaB c||(numB c||c==95)
def bodyLen:List UInt8→Nat
 | []=>0
 | c::l=>if bodyB c=true then bodyLen l+1 else 0
def two:List UInt8→UInt8→UInt8→Bool
 | x::y::_,a,b=>x==a&&y==b
 | _,_,_=>false
def lineRest:List UInt8→List UInt8
 | []=>[]
 | c::l=>if c=10 then c::l else lineRest l
def endRest:List UInt8→Option (List UInt8)
 | []=>none
 | c::l=>if two (c::l) 42 41=true then some (l.drop 1) else endRest l
def pastF:Nat→List UInt8→Bool×List UInt8
 | 0,r=>(true,r)
 | f+1,[]=>(true,[])
 | f+1,c::l=>
  if c=32∨c=10∨c=9 then pastF f l
  else if two (c::l) 47 47=true then pastF f (lineRest l)
  else if two (c::l) 40 42=true then
   match endRest (l.drop 1) with
   | some r=>pastF f r
   | none=>(false,c::l)
  else (true,c::l)
def past (r:List UInt8):Bool×List UInt8:=pastF (r.length+1) r
def words:List (List UInt8):=[
  [80,82,79,71,82,65,77],
  [69,78,68,95,80,82,79,71,82,65,77],
  [86,65,82],
  [86,65,82,95,73,78,80,85,84],
  [86,65,82,95,79,85,84,80,85,84],
  [69,78,68,95,86,65,82],
  [73,78,84],
  [66,79,79,76],
  [65,82,82,65,89],
  [79,70],
  [84,82,85,69],
  [70,65,76,83,69],
  [73,70],
  [84,72,69,78],
  [69,76,83,73,70],
  [69,76,83,69],
  [69,78,68,95,73,70],
  [67,65,83,69],
  [69,78,68,95,67,65,83,69],
  [70,79,82],
  [84,79],
  [66,89],
  [68,79],
  [69,78,68,95,70,79,82],
  [87,72,73,76,69],
  [69,78,68,95,87,72,73,76,69],
  [82,69,80,69,65,84],
  [85,78,84,73,76],
  [69,78,68,95,82,69,80,69,65,84],
  [69,88,73,84],
  [82,69,84,85,82,78],
  [65,78,68],
  [79,82],
  [88,79,82],
  [78,79,84],
  [77,79,68]]
def isWord (l:List UInt8):Bool:=words.any fun w=>w==l
def dig (c:UInt8) (b:Nat):Option Nat:=
 let d:=if numB c=true then c.toNat-48 else if 65≤c∧c≤70 then c.toNat-55 else 99
 if d<b then some d else none
def digs (b:Nat):List UInt8→List Nat
 | []=>[]
 | c::l=>match dig c b with
  | some d=>d::digs b l
  | none=>[]
def val (b:Nat) (ds:List Nat):Nat:=ds.foldl (fun n d=>n*b+d) 0
def baseOf (r:List UInt8):Nat×Nat:=if two r 50 35=true then (2,2) else if two r 56 35=true then (8,2) else if (two r 49 54&&two (r.drop 1) 54 35)=true then (16,3) else (10,0)
def stuck:List UInt8→Bool
 | []=>false
 | c::_=>bodyB c||c==35
def number (r:List UInt8):Int×Nat×Nat:=
 let b:=baseOf r
 let ds:=digs b.1 (r.drop b.2)
 let e:=b.2+ds.length
 if ds.isEmpty||stuck (r.drop e) then (5,0,e) else if 9223372036854775807<val b.1 ds then (2,0,e) else (0,val b.1 ds,e)
def singles:List UInt8:=[43,45,42,47,40,41,91,93,46,44,59,58,60,62,61]
def signLen (r:List UInt8):Nat:=
 if (two r 58 61||(two r 60 61||(two r 62 61||(two r 60 62||two r 46 46))))=true then 2
 else match r with
  | c::_=>if singles.contains c=true then 1 else 0
  | []=>0
def sgn (r:List UInt8):Int×Int×Nat×Nat:=
 match r with
 | []=>(5,0,0,0)
 | c::l=>
  if alphaB c=true then
   let e:=bodyLen (c::l)
   if isWord (r.take e)=true then (0,2,0,e) else if 16<e then (9,0,0,0) else (0,1,0,e)
  else if numB c=true then
   let x:=number (c::l)
   if x.1=0 then (0,3,x.2.1,x.2.2) else (x.1,0,0,0)
  else
   let e:=signLen (c::l)
   if e=0 then (5,0,0,0) else (0,4,0,e)
def atP (p:Nat×Nat):Tk:=⟨0,[],0,p.1,p.2⟩
def zeroT:Tk:=⟨0,[],0,0,0⟩
def lexF (s:List UInt8):Nat→List UInt8→List Tk→Int×List Tk×Tk
 | 0,_,_=>(5,[],zeroT)
 | f+1,r,acc=>
  let p:=past r
  if p.1=false then (5,[],atP (plAt s p.2))
  else if p.2=[] then (0,acc++[atP (plAt s [])],zeroT)
  else
   let x:=sgn p.2
   if x.1=0 then lexF s f (p.2.drop x.2.2.2) (acc++[⟨x.2.1,p.2.take x.2.2.2,x.2.2.1,(plAt s p.2).1,(plAt s p.2).2⟩]) else (x.1,[],atP (plAt s p.2))
def lex (s:List UInt8):Int×List Tk×Tk:=if 16384<s.length then (13,[],atP (1,1)) else lexF s (s.length+1) s []
theorem numB_iff (c:UInt8):numB c=true↔48≤(c.toNat:Int)∧(c.toNat:Int)≤57:=by
 unfold numB;rw [Bool.and_eq_true,decide_eq_true_iff,decide_eq_true_iff,UInt8.le_iff_toNat_le,UInt8.le_iff_toNat_le];simp;omega
theorem alphaB_iff (c:UInt8):alphaB c=true↔(65≤(c.toNat:Int)∧(c.toNat:Int)≤90)∨(97≤(c.toNat:Int)∧(c.toNat:Int)≤122):=by
 unfold alphaB;rw [Bool.or_eq_true,Bool.and_eq_true,Bool.and_eq_true,decide_eq_true_iff,decide_eq_true_iff,decide_eq_true_iff,decide_eq_true_iff,UInt8.le_iff_toNat_le,UInt8.le_iff_toNat_le,UInt8.le_iff_toNat_le,UInt8.le_iff_toNat_le];simp;omega
theorem u8_eq (c:UInt8) (n:Nat) (hn:n<256):((c.toNat:Int)==(n:Int))=(c==UInt8.ofNat n):=by
 rw [Bool.eq_iff_iff,beq_iff_eq,beq_iff_eq];constructor
 ·intro h
  rw [←show c.toNat=n by omega];simp
 ·rintro rfl
  rw [UInt8.toNat_ofNat'];simp;omega
def dr (s:ByteArray) (n:Nat):List UInt8:=s.data.toList.drop n
theorem size_len (s:ByteArray):s.data.toList.length=s.size:=(Lib.size_eq s).symm
theorem dr_len (s:ByteArray) (n:Nat):(dr s n).length=s.size-n:=by unfold dr;rw [List.length_drop,size_len]
theorem dr_at {s:ByteArray} {n:Nat} (h:n<s.size):dr s n=s[n]::dr s (n+1):=by
 have h2:n<s.data.toList.length:=by rw [size_len];exact h
 unfold dr;rw [List.drop_eq_getElem_cons h2];rfl
theorem two_cons (x y:UInt8) (l:List UInt8) (a b:UInt8):two (x::y::l) a b=(x==a&&y==b):=rfl
theorem dr_end {s:ByteArray} {n:Nat} (h:s.size≤n):dr s n=[]:=List.eq_nil_of_length_eq_zero (by rw [dr_len];omega)
theorem dr_drop (s:ByteArray) (n m:Nat):(dr s n).drop m=dr s (n+m):=by unfold dr;rw [List.drop_drop]
theorem num_byte {c:UInt8} (h:numB c=true):48≤c.toNat∧c.toNat≤57:=by have:=(numB_iff c).1 h;omega
def digV (c:UInt8):Nat:=if numB c=true then c.toNat-48 else if 65≤c∧c≤70 then c.toNat-55 else 99
theorem foldl_le:∀ (l:List UInt8) (p:Nat×Nat),(l.foldl stepP p).1≤l.length+p.1∧(l.foldl stepP p).2≤l.length+max p.2 1∧p.1≤(l.foldl stepP p).1
 | [],p=>⟨by simp,by simp;omega,by simp⟩
 | c::l,p=>by
  have h:=foldl_le l (stepP p c);rw [List.foldl_cons,List.length_cons];unfold stepP at *;split at h<;>simp at h ⊢<;>rename_i hc<;>simp [hc] at h ⊢<;>omega
theorem plc_le (l:List UInt8):(plc l).1≤l.length+1∧(plc l).2≤l.length+1:=by
 have:=foldl_le l (1,1);unfold plc;simp at this;omega
theorem plc_take {s:ByteArray} {n:Nat} (h:n<s.size):plc (s.data.toList.take (n+1))=stepP (plc (s.data.toList.take n)) s[n]:=by
 unfold plc;have h2:n<s.data.toList.length:=by rw [size_len];exact h
 rw [List.take_succ_eq_append_getElem h2,List.foldl_append];rfl
def plS (s:ByteArray) (n:Nat):Nat×Nat:=plc (s.data.toList.take n)
theorem plS_le (s:ByteArray) (n:Nat):(plS s n).1≤n+1∧(plS s n).2≤n+1:=by
 have h:=plc_le (s.data.toList.take n);have h2:=List.length_take_le n s.data.toList;unfold plS;omega
theorem plS_at (s:ByteArray) {n:Nat} (h:n≤s.size):plAt s.data.toList (dr s n)=plS s n:=by
 unfold plAt plS;rw [dr_len,size_len,show s.size-(s.size-n)=n by omega]
theorem lineRest_suf:∀ (l:List UInt8),lineRest l <:+ l
 | []=>List.suffix_refl _
 | c::l=>by
  rw [lineRest];split
  ·exact List.suffix_refl _
  ·exact (lineRest_suf l).trans (List.suffix_cons c l)
theorem endRest_suf:∀ (l r:List UInt8),endRest l=some r→r <:+ l
 | [],r,h=>by cases h
 | c::l,r,h=>by
  rw [endRest] at h;split at h
  ·cases h
   exact (List.drop_suffix 1 l).trans (List.suffix_cons c l)
  ·exact (endRest_suf l r h).trans (List.suffix_cons c l)
theorem pastF_suf:∀ (f:Nat) (r:List UInt8),(pastF f r).2 <:+ r
 | 0,r=>List.suffix_refl _
 | f+1,[]=>List.suffix_refl _
 | f+1,c::l=>by
  rw [pastF];split
  ·exact (pastF_suf f l).trans (List.suffix_cons c l)
  ·split
   ·exact ((pastF_suf f _).trans (lineRest_suf l)).trans (List.suffix_cons c l)
   ·split
    ·split
     ·rename_i r h
      exact (((pastF_suf f r).trans (endRest_suf _ _ h)).trans (List.drop_suffix 1 l)).trans (List.suffix_cons c l)
     ·exact List.suffix_refl _
    ·exact List.suffix_refl _
def pastN (s:ByteArray) (n:Nat):Nat:=s.size-(past (dr s n)).2.length
theorem suf_dr {s:ByteArray} {n:Nat} {r:List UInt8} (h:r <:+ dr s n) (hn:n≤s.size):r=dr s (s.size-r.length)∧n≤s.size-r.length∧s.size-r.length≤s.size:=by
 have hl:=h.length_le;rw [dr_len] at hl;refine ⟨?_,by omega,by omega⟩;have h2:=List.suffix_iff_eq_drop.1 h;rw [dr_len,dr_drop,show n+(s.size-n-r.length)=s.size-r.length by omega] at h2;exact h2
theorem pastN_dr {s:ByteArray} {n:Nat} (hn:n≤s.size):(past (dr s n)).2=dr s (pastN s n)∧n≤pastN s n∧pastN s n≤s.size:=suf_dr (pastF_suf _ _) hn
theorem two_len {s:ByteArray} {n:Nat} {a b:UInt8} (h:two (dr s n) a b=true):n+1<s.size:=by
 have hl:=dr_len s n
 match dr s n,hl,h with
 | [],_,h=>cases h
 | [_],_,h=>cases h
 | _::_::l,hl,_=>simp at hl;omega
theorem eq8n (x:UInt8) (m:Nat) (hm:m<256):((x.toNat:Int)==(m:Int))=(x==UInt8.ofNat m):=u8_eq x m hm


theorem dig_eq (c:UInt8) (b:Nat):dig c b=if digV c<b then some (digV c) else none:=rfl
theorem digs_yes {c:UInt8} {b:Nat} (h:digV c<b) (l:List UInt8):digs b (c::l)=digV c::digs b l:=by rw [digs,dig_eq,if_pos h]
theorem digs_no {c:UInt8} {b:Nat} (h:¬ digV c<b) (l:List UInt8):digs b (c::l)=[]:=by rw [digs,dig_eq,if_neg h]
theorem val_snoc (b:Nat) (l:List Nat) (d:Nat):val b (l++[d])=val b l*b+d:=by unfold val;rw [List.foldl_append];rfl
theorem ov1 {v b d:Nat} (hb:1≤b) (h:9223372036854775807<v):9223372036854775807<v*b+d:=Nat.lt_of_lt_of_le h (Nat.le_trans (Nat.le_mul_of_pos_right v hb) (Nat.le_add_right _ _))
theorem ov2 {v b d:Nat} (hb:1≤b) (hd:d≤99) (h:(9223372036854775807-d) / b<v):9223372036854775807<v*b+d:=by
 have:=(Nat.div_lt_iff_lt_mul hb).1 h;omega
theorem ov3 {v b d:Nat} (hb:1≤b) (hd:d≤99) (h:¬ (9223372036854775807-d) / b<v):v*b+d≤9223372036854775807:=by
 have:=(Nat.le_div_iff_mul_le hb).1 (Nat.le_of_not_lt h);omega
structure Rd1 (b:Nat) (D:List Nat) (rest:List Nat) (q v:Nat) (so ov:Bool):Prop where
 le:q≤D.length
 drp:D.drop q=rest
 hso:so=decide (0<q)
 hov:ov=decide (9223372036854775807<val b (D.take q))
 hv:ov=false→v=val b (D.take q)
 mx:v≤9223372036854775807
theorem Rd1.take1 {b:Nat} {D rest:List Nat} {q v d:Nat} {so ov:Bool} (h:Rd1 b D (d::rest) q v so ov):q+1≤D.length∧D.drop (q+1)=rest∧val b (D.take (q+1))=val b (D.take q)*b+d:=by
 have h1:q<D.length:=by
  have:=congrArg List.length h.drp;rw [List.length_drop,List.length_cons] at this;omega
 have h2:=List.drop_eq_getElem_cons h1;rw [h.drp] at h2;injection h2 with h3 h4
 refine ⟨h1,h4.symm,?_⟩;rw [List.take_succ_eq_append_getElem h1,val_snoc,←h3]
theorem Rd1.over {b:Nat} {D rest:List Nat} {q v d:Nat} {so ov:Bool} (h:Rd1 b D (d::rest) q v so ov) (hb:1≤b) (hd:d≤99) (hv:(9223372036854775807-d) / b<v):Rd1 b D rest (q+1) v true true:=by
 obtain ⟨h1,h2,h3⟩:=h.take1;refine ⟨h1,h2,by simp,?_,(fun h=>by cases h),h.mx⟩;rw [h3];symm
 rw [decide_eq_true_iff];cases hov:ov
 ·rw [←h.hv hov]
  exact ov2 hb hd hv
 ·have:=h.hov
  rw [hov] at this;exact ov1 hb (of_decide_eq_true this.symm)
theorem Rd1.more {b:Nat} {D rest:List Nat} {q v d:Nat} {so ov:Bool} (h:Rd1 b D (d::rest) q v so ov) (hb:1≤b) (hd:d≤99) (hv:¬ (9223372036854775807-d) / b<v):Rd1 b D rest (q+1) (v*b+d) true ov:=by
 obtain ⟨h1,h2,h3⟩:=h.take1;refine ⟨h1,h2,by simp,?_,fun hov=>by rw [h3,←h.hv hov],ov3 hb hd hv⟩;rw [h3];cases hov:ov
 ·symm
  rw [decide_eq_false_iff_not,←h.hv hov];have:=ov3 hb hd hv;omega
 ·symm
  rw [decide_eq_true_iff];have:=h.hov;rw [hov] at this;exact ov1 hb (of_decide_eq_true this.symm)
theorem Rd1.end {b:Nat} {D:List Nat} {q v:Nat} {so ov:Bool} (h:Rd1 b D [] q v so ov):q=D.length∧so=!D.isEmpty∧ov=decide (9223372036854775807<val b D)∧(ov=false→v=val b D):=by
 have h1:q=D.length:=by
  have h2:=h.drp;rw [List.drop_eq_nil_iff] at h2;have:=h.le;omega
 have h3:D.take q=D:=by rw [h1,List.take_length]
 refine ⟨h1,?_,by rw [h.hov,h3],fun hov=>by rw [h.hv hov,h3]⟩;rw [h.hso,h1];cases D<;>simp
theorem results_ttc {P:Program} {fn:Func} {t u c:Tmp} {T:TypeId} (h:fn.results=#[.tmp t,.tmp u,.cell c T]) {tmps:Array Value} {w:World} {b o:Nat} {v:Value} (ht:tmps.getD c undef=.pointer (some ⟨b,o,none⟩))
  (hl:(loadVar T ⟨b,o,none⟩).run P w=.ok v w):(results fn tmps).run P w=.ok (.tuple #[tmps.getD t undef,tmps.getD u undef,v]) w:=by
 have ha:(asAddr (.pointer (some ⟨b,o,none⟩)):Sem Addr)=pure ⟨b,o,none⟩:=rfl;have ht2:tmps[c]?.getD undef=.pointer (some ⟨b,o,none⟩):=by rw [←ht];simp
 rw [results,h];simp [ht2,ha,hl]
theorem tok_info:(Tryz.prog.info? 34).map (fun i=>(i.zero,i.size,i.bytes))=some (some (.agg #[.int .i64 0,.string ⟨#[]⟩,.int .i64 0,.int .i64 0,.int .i64 0]),5,48):=by kernel_rfl
theorem toks_slice:Tryz.prog.underlying 65=some (.slice 34):=by kernel_rfl
def GotL (s:ByteArray) (w:World) (e:Ending) (w':World):Prop:=
 ∃ A n c,e=.returned (.tuple #[.slice A n c,.int .i64 (lex s.data.toList).1,.agg (tC (lex s.data.toList).2.2).toArray])∧rr.Rd tC 5 w' w'.heap.size A n c (lex s.data.toList).2.1∧Below w.heap.size w w'
section
variable {s r:List UInt8} {f:Nat} {acc:List Tk}
theorem lexF_bad (h:(past r).1=false):lexF s (f+1) r acc=(5,[],atP (plAt s (past r).2)):=by rw [lexF];simp only [h,if_true]
theorem lexF_end (h:(past r).1=true) (h2:(past r).2=[]):lexF s (f+1) r acc=(0,acc++[atP (plAt s [])],zeroT):=by
 rw [lexF];simp only [h,h2,if_true,Bool.true_eq_false,if_false]
theorem lexF_err (h:(past r).1=true) (h2:(past r).2≠[]) (h3:(sgn (past r).2).1≠0):lexF s (f+1) r acc=((sgn (past r).2).1,[],atP (plAt s (past r).2)):=by
 rw [lexF];simp only [h,h2,h3,Bool.true_eq_false,if_false]
theorem lexF_tok (h:(past r).1=true) (h2:(past r).2≠[]) (h3:(sgn (past r).2).1=0):lexF s (f+1) r acc=lexF s f ((past r).2.drop (sgn (past r).2).2.2.2) (acc++[⟨(sgn (past r).2).2.1,(past r).2.take (sgn (past r).2).2.2.2,(sgn (past r).2).2.2.1,(plAt s (past r).2).1,(plAt s (past r).2).2⟩]):=by
 rw [lexF];simp only [h,h2,h3,if_true,Bool.true_eq_false,if_false]
end
theorem extract_dr (s:ByteArray) (a b:Nat):s.extract a b=⟨((dr s a).take (b-a)).toArray⟩:=by
 apply ByteArray.ext
 apply Array.toList_inj.1
 rw [Lib.extract_data];rfl
theorem bodyLen_le:∀ (l:List UInt8),bodyLen l≤l.length
 | []=>Nat.le_refl _
 | c::l=>by
  have:=bodyLen_le l;rw [bodyLen,List.length_cons];split<;>omega
theorem form_above {α:Type} {enc:α→List Value} {z:Nat} (hlz:∀ x,(enc x).length=z) {t:TypeId} {w W:World} {base:Nat} {v:Value} {L:List α} (h:rr.Ow enc z t w base v L) (ha:Above base w W) (hs:W.heap.size=w.heap.size) :
  ∃ A cap,v=.slice A L.length cap∧rr.Rd enc z W W.heap.size A L.length cap L:=by
 have h0:=h;rcases h0.2 with ⟨rfl,h1⟩|⟨g,cap,cur,rfl,hbg,hg,hnc,hcm,_,_⟩
 ·have hL:L=[]:=List.eq_nil_of_length_eq_zero h1
  subst hL;exact ⟨none,0,rfl,Rd.none_ _ _ _ _⟩
 ·refine ⟨_,cap,rfl,rfl,hnc,hcm,(fun h=>by cases h),fun hp=>⟨g,0,rfl,?_,fun i x hx j u hu=>?_⟩⟩
  ·rw [hs]
   exact (Array.getElem?_eq_some_iff.1 hg).1
  ·have hj:j<z:=by rw [←hlz x];exact (List.getElem?_eq_some_iff.1 hu).1
   have hc:=World.ownsRow.cells (g:=g) h rfl (i*z+j) u (by rw [flat_at enc z hlz L i j x hx hj,hu]);have e:(Addr.add ⟨g,0,none⟩ (i*z+j))=⟨g,0+i*z+j,none⟩:=by unfold Addr.add;by_cases h:i*z+j=0<;>simp [h];omega
   rw [e] at hc;rw [ha g _ hbg];exact hc
theorem box_drew {w:World} {g:Nat}:∀ {vs:List Value} {o:Nat},Box w g o vs→Box w.drew g o vs
 | [],_,_=>trivial
 | v::vs,o,h=>⟨h.1,h.2.1,box_drew h.2.2⟩
section
variable {x:UInt8} {l:List UInt8}
theorem sgn_num {v n:Nat} (h1:alphaB x=false) (h2:numB x=true) (h3:number (x::l)=(0,v,n)):sgn (x::l)=(0,3,v,n):=by
 unfold sgn;simp only [h1,h2,h3,Bool.false_eq_true,if_true,if_false]
theorem sgn_nume {e:Int} {v n:Nat} (h1:alphaB x=false) (h2:numB x=true) (h3:number (x::l)=(e,v,n)) (h4:e≠0):sgn (x::l)=(e,0,0,0):=by
 unfold sgn;simp only [h1,h2,h3,h4,Bool.false_eq_true,if_true,if_false]
theorem sgn_sign (h1:alphaB x=false) (h2:numB x=false) (h3:signLen (x::l)≠0):sgn (x::l)=(0,4,0,signLen (x::l)):=by
 unfold sgn;simp only [h1,h2,h3,Bool.false_eq_true,if_false]
theorem sgn_none (h1:alphaB x=false) (h2:numB x=false) (h3:signLen (x::l)=0):sgn (x::l)=(5,0,0,0):=by
 unfold sgn;simp only [h1,h2,h3,Bool.false_eq_true,if_true,if_false]
theorem sgn_word (h1:alphaB x=true) (h2:isWord ((x::l).take (bodyLen (x::l)))=true):sgn (x::l)=(0,2,0,bodyLen (x::l)):=by
 unfold sgn;simp only [h1,h2,if_true]
theorem sgn_long (h1:alphaB x=true) (h2:isWord ((x::l).take (bodyLen (x::l)))=false) (h3:16<bodyLen (x::l)):sgn (x::l)=(9,0,0,0):=by
 unfold sgn;simp only [h1,h2,h3,Bool.false_eq_true,if_true,if_false]
theorem sgn_name (h1:alphaB x=true) (h2:isWord ((x::l).take (bodyLen (x::l)))=false) (h3:¬ 16<bodyLen (x::l)):sgn (x::l)=(0,1,0,bodyLen (x::l)):=by
 unfold sgn;simp only [h1,h2,h3,Bool.false_eq_true,if_true,if_false]
end
theorem signLen_le (r:List UInt8):signLen r≤r.length∧signLen r≤2:=by
 unfold signLen
 match r with
 | []=>simp [two]
 | [a]=>simp only [two,Bool.or_self,Bool.false_eq_true,if_false];split<;>simp
 | a::b::l=>split<;>(try split)<;>(try split)<;>simp
theorem digs_len (b:Nat):∀ (l:List UInt8),(digs b l).length≤l.length
 | []=>Nat.le_refl _
 | c::l=>by
  have:=digs_len b l;rw [digs];split<;>simp<;>omega
theorem base_len (r:List UInt8):(baseOf r).2≤r.length:=by
 unfold baseOf;split
 ·rename_i h
  match r,h with
  | _::_::l,_=>simp
 ·split
  ·rename_i h
   match r,h with
   | _::_::l,_=>simp
  ·split
   ·rename_i h
    match r,h with
    | _::_::_::l,_=>simp
    | [_,_],h=>simp [two] at h
    | [_],h=>simp [two] at h
    | [],h=>simp [two] at h
   ·exact Nat.zero_le _
theorem number_len {r:List UInt8} {e:Int} {v n:Nat} (h:number r=(e,v,n)):n≤r.length∧(e=0→1≤n):=by
 unfold number at h;have h1:=digs_len (baseOf r).1 (r.drop (baseOf r).2);have h2:=base_len r;rw [List.length_drop] at h1;simp only at h;split at h
 ·cases h
  exact ⟨by omega,fun h=>by cases h⟩
 ·rename_i h3
  have h4:digs (baseOf r).1 (r.drop (baseOf r).2)≠[]:=by
   intro e;rw [e] at h3;simp at h3
  have h5:1≤(digs (baseOf r).1 (r.drop (baseOf r).2)).length:=by
   rcases Nat.eq_zero_or_pos (digs (baseOf r).1 (r.drop (baseOf r).2)).length with h|h
   ·exact absurd (List.eq_nil_of_length_eq_zero h) h4
   ·exact h
  split at h<;>cases h<;>exact ⟨by omega,fun _=>by omega⟩
theorem alpha_body {c:UInt8} (h:alphaB c=true):bodyB c=true:=by unfold bodyB;rw [h];rfl
def Placed (s:List UInt8):Nat→List Tk→Prop
 | _,[]=>False
 | o,t::l=>∃ p,o≤p∧p≤s.length∧(t.line,t.col)=plc (s.take p)∧(s.drop p).take t.text.length=t.text∧p+t.text.length≤s.length∧((l=[]∧t.kind=0∧p=s.length)∨Placed s (p+1) l)
theorem Placed.mono {s:List UInt8} {o o':Nat}:∀ {M:List Tk},Placed s o M→o'≤o→Placed s o' M
 | [],h,_=>h
 | t::l,⟨p,h1,h2⟩,h=>⟨p,by omega,h2⟩
theorem sgn_len {r:List UInt8} {k:Int} {v n:Nat} (h:sgn r=(0,k,v,n)):1≤n∧n≤r.length:=by
 match r,h with
 | [],h=>simp [sgn] at h
 | c::l,h=>
  unfold sgn at h;simp only at h;split at h
  ·rename_i hal
   have h1:=bodyLen_le (c::l);have h2:1≤bodyLen (c::l):=by rw [bodyLen,if_pos (alpha_body hal)];omega
   split at h
   ·cases h;exact ⟨h2,h1⟩
   ·split at h
    ·cases h
    ·cases h;exact ⟨h2,h1⟩
  ·split at h
   ·obtain ⟨⟨e,v',n'⟩,hx⟩:∃ q,number (c::l)=q:=⟨_,rfl⟩
    rw [hx] at h;have h1:=number_len hx;simp only at h;split at h
    ·rename_i he
     cases h
     exact ⟨h1.2 he,h1.1⟩
    ·rename_i he
     cases h
     exact absurd rfl he
   ·have h1:=signLen_le (c::l)
    split at h
    ·cases h
    ·cases h;exact ⟨by omega,h1.1⟩
theorem past_suf (r:List UInt8):(past r).2 <:+ r:=pastF_suf _ _
theorem Placed.last {s:List UInt8}:∀ {M:List Tk} {o:Nat},Placed s o M→∃ t,M[M.length-1]?=some t∧t.kind=0
 | [],o,h=>h.elim
 | [t],o,⟨p,_,_,_,_,_,h⟩=>⟨t,rfl,h.elim (fun h=>h.2.1) (fun h=>h.elim)⟩
 | t::u::l,o,⟨p,_,_,_,_,_,h⟩=>by
  rcases h with ⟨h,_⟩|h
  ·cases h
  ·obtain ⟨t',h1,h2⟩:=h.last
   exact ⟨t',by simpa using h1,h2⟩
theorem pastF_fuel:∀ (f g:Nat) (r:List UInt8),r.length<f→r.length<g→pastF f r=pastF g r
 | 0,_,_,h,_=>by omega
 | _+1,0,_,_,h=>by omega
 | f+1,g+1,[],_,_=>rfl
 | f+1,g+1,c::l,hf,hg=>by
  rw [List.length_cons] at hf hg;have h1:=(lineRest_suf l).length_le;rw [pastF,pastF];split
  ·exact pastF_fuel f g l (by omega) (by omega)
  ·split
   ·exact pastF_fuel f g _ (by omega) (by omega)
   ·split
    ·split
     ·rename_i r hr
      have h2:=(endRest_suf _ _ hr).length_le;rw [List.length_drop] at h2;exact pastF_fuel f g r (by omega) (by omega)
     ·rfl
    ·rfl
theorem past_f {f:Nat} {r:List UInt8} (h:r.length<f):pastF f r=past r:=pastF_fuel _ _ _ h (Nat.lt_succ_self _)
theorem past_blank {c:UInt8} (h:c=32∨c=10∨c=9) (l:List UInt8):past (c::l)=past l:=by
 unfold past;rw [List.length_cons,pastF,if_pos h]
theorem past_line (l:List UInt8):past (47::47::l)=past (lineRest (47::l)):=by
 have h1:=(lineRest_suf (47::l)).length_le;rw [List.length_cons] at h1;rw [←past_f (f:=l.length+1+1) (r:=lineRest (47::l)) (by omega)];rfl
theorem past_rem (l r:List UInt8) (h:endRest l=some r):past (40::42::l)=past r:=by
 have h1:=(endRest_suf _ _ h).length_le;rw [←past_f (f:=l.length+1+1) (r:=r) (by omega)]
 show (match endRest l with|some r=>pastF (l.length+1+1) r|none=>(false,40::42::l))=_
 rw [h]
def gaps:List (List UInt8):=[[32],[10],[9],[32,47,47,32,120,10],[40,42,32,42,32,42,41],[40,42,42,41,32],[10,10],[40,42,47,47,42,41]]
theorem past_gap {g:List UInt8} (h:g∈gaps) (l:List UInt8):past (g++l)=past l:=by
 simp only [gaps,List.mem_cons,List.not_mem_nil,or_false] at h;rcases h with rfl|rfl|rfl|rfl|rfl|rfl|rfl|rfl
 ·exact past_blank (.inl rfl) l
 ·exact past_blank (.inr (.inl rfl)) l
 ·exact past_blank (.inr (.inr rfl)) l
 ·rw [show [32,47,47,32,120,10]++l=32::47::47::32::120::10::l from rfl,past_blank (.inl rfl),past_line]
  rw [show lineRest (47::32::120::10::l)=10::l from rfl,past_blank (.inr (.inl rfl))]
 ·exact past_rem (32::42::32::42::41::l) l rfl
 ·rw [show [40,42,42,41,32]++l=40::42::42::41::32::l from rfl,past_rem (42::41::32::l) (32::l) rfl,past_blank (.inl rfl)]
 ·rw [show [10,10]++l=10::10::l from rfl,past_blank (.inr (.inl rfl)),past_blank (.inr (.inl rfl))]
 ·exact past_rem (47::47::42::41::l) l rfl
def GapStart (l:List UInt8):Prop:=l=[]∨∃ c r,l=c::r∧(c=32∨c=10∨c=9∨c=40)
def NoGap (r:List UInt8):Prop:=∃ c l,r=c::l∧¬ (c=32∨c=10∨c=9)∧two r 47 47=false∧two r 40 42=false
theorem NoGap.past {r:List UInt8} (h:NoGap r):past r=(true,r):=by
 obtain ⟨c,l,rfl,h1,h2,h3⟩:=h;unfold tk.past;rw [List.length_cons,pastF,if_neg h1,h2,h3];simp
theorem base_16 (r:List UInt8):(baseOf r).1≤16∧(baseOf r).2≤3:=by
 unfold baseOf;split
 ·exact ⟨by simp,by simp⟩
 ·split
  ·exact ⟨by simp,by simp⟩
  ·split<;>exact ⟨by simp,by simp⟩

def TokOk (t:Tk):Prop:=1≤t.text.length∧∃ v:Nat,t.n=v∧∀ rest,GapStart rest→past (t.text++rest)=(true,t.text++rest)∧sgn (t.text++rest)=(0,t.kind,v,t.text.length)
def Good:List Tk→Prop
 | []=>False
 | [t]=>t.kind=0∧t.text=[]∧t.n=0
 | t::u::l=>TokOk t∧Good (u::l)
theorem Good.cons {t:Tk} {M:List Tk} (h:TokOk t) (hM:Good M):Good (t::M):=by
 cases M with
 | nil=>exact hM.elim
 | cons u l=>exact ⟨h,hM⟩
end tk
namespace q
open RowKit
def rm (z:Int):Bool:=decide (-9223372036854775808≤z∧z≤9223372036854775807)
def rv (z:Int):Int:=if rm z=true then z else 0
def addV (a b:Int):Int:=rv (a+b)
def addB (a b:Int):Bool:=rm (a+b)
def mulV (a b:Int):Int:=rv (a*b)
def mulB (a b:Int):Bool:=rm (a*b)
theorem rm_iff {z:Int}:rm z=true↔(-9223372036854775808≤z∧z≤9223372036854775807):=by simp [rm]
theorem rv_yes {z:Int} (h:rm z=true):rv z=z:=by simp [rv,h]
theorem rv_no {z:Int} (h:¬ rm z=true):rv z=0:=by simp [rv,h]
theorem i64_of_bv (v:BitVec 64):(IntKind.i64.wrap (v.toNat:Int)<0)↔v.msb=true:=by
 rw [IntKind.wrap_i64,BitVec.msb_eq_decide];have:=v.isLt;simp only [decide_eq_true_eq];omega
theorem i64_rng (n:Int):-9223372036854775808≤IntKind.i64.wrap n∧IntKind.i64.wrap n≤9223372036854775807:=by
 rw [IntKind.wrap_i64];omega
theorem msb_of (x:Int) (h1:-9223372036854775808≤x) (h2:x≤9223372036854775807):(BitVec.ofInt 64 x).msb=true↔x<0:=by
 rw [BitVec.msb_eq_toInt,BitVec.toInt_ofInt,decide_eq_true_eq,Int.bmod_def];omega
theorem xor_neg (x y:Int) (h1:-9223372036854775808≤x) (h2:x≤9223372036854775807) (h3:-9223372036854775808≤y) (h4:y≤9223372036854775807) :
  bits .xor .i64 x y<0↔¬ (x<0↔y<0):=by
 show IntKind.i64.wrap ((BitVec.ofInt 64 x ^^^ BitVec.ofInt 64 y).toNat:Int)<0↔_
 rw [i64_of_bv,BitVec.msb_xor];have a:=msb_of x h1 h2;have b:=msb_of y h3 h4;rw [←a,←b];cases (BitVec.ofInt 64 x).msb<;>cases (BitVec.ofInt 64 y).msb<;>simp
theorem and_neg (x y:Int) (h1:-9223372036854775808≤x) (h2:x≤9223372036854775807) (h3:-9223372036854775808≤y) (h4:y≤9223372036854775807) :
  bits .and .i64 x y<0↔(x<0∧y<0):=by
 show IntKind.i64.wrap ((BitVec.ofInt 64 x &&& BitVec.ofInt 64 y).toNat:Int)<0↔_
 rw [i64_of_bv,BitVec.msb_and];have a:=msb_of x h1 h2;have b:=msb_of y h3 h4;rw [←a,←b];cases (BitVec.ofInt 64 x).msb<;>cases (BitVec.ofInt 64 y).msb<;>simp
theorem xor_rng (x y:Int):-9223372036854775808≤bits .xor .i64 x y∧bits .xor .i64 x y≤9223372036854775807:=i64_rng _
theorem wrap64_rng (n:Int):-9223372036854775808≤wrap64 n∧wrap64 n≤9223372036854775807:=by unfold wrap64;omega
theorem add_test (a b:Int) (h1:-9223372036854775808≤a) (h2:a≤9223372036854775807) (h3:-9223372036854775808≤b) (h4:b≤9223372036854775807) :
  bits .and .i64 (bits .xor .i64 a (wrap64 (a+b))) (bits .xor .i64 b (wrap64 (a+b)))<0↔¬ rm (a+b)=true:=by
 have r:=wrap64_rng (a+b);have x:=xor_rng a (wrap64 (a+b));have y:=xor_rng b (wrap64 (a+b));rw [and_neg _ _ x.1 x.2 y.1 y.2,xor_neg _ _ h1 h2 r.1 r.2,xor_neg _ _ h3 h4 r.1 r.2,rm_iff];unfold wrap64;omega
theorem wrap_add (z:Int) (h:rm z=true):wrap64 z=z:=by
 rw [rm_iff] at h;unfold wrap64;omega
def mag (a:Int):Nat:=a.natAbs
theorem mag_le (a:Int) (h1:-9223372036854775808≤a) (h2:a≤9223372036854775807):mag a≤9223372036854775808:=by unfold mag;omega
theorem mag_neg (a:Int) (h1:-9223372036854775808≤a) (h:a<0):IntKind.u64.wrap (-IntKind.u64.wrap a)=(mag a:Nat):=by
 unfold mag;rw [IntKind.wrap_u64,IntKind.wrap_u64];omega
def neq (a b:Int):Bool:=!decide (a<0)==decide (b<0)
def sgn (m:Nat) (neg:Bool):Int:=if neg=true then -(m:Int) else (m:Int)
theorem sgn_mul (a b:Int):sgn (mag a*mag b) (neq a b)=a*b:=by
 unfold sgn mag neq;rw [←Int.natAbs_mul];by_cases ha:a<0<;>by_cases hb:b<0<;>simp [ha,hb]
 ·have:=Int.mul_nonneg_of_nonpos_of_nonpos (Int.le_of_lt ha) (Int.le_of_lt hb);omega
 ·have:=Int.mul_nonpos_of_nonpos_of_nonneg (Int.le_of_lt ha) (Int.not_lt.mp hb);omega
 ·have:=Int.mul_nonpos_of_nonneg_of_nonpos (Int.not_lt.mp ha) (Int.le_of_lt hb);omega
 ·have:=Int.mul_nonneg (Int.not_lt.mp ha) (Int.not_lt.mp hb);omega
theorem abs_mul (a b:Int):(a*b).natAbs=mag a*mag b:=by unfold mag;rw [Int.natAbs_mul]
theorem mul_over (a b:Int) (h:18446744073709551616≤mag a*mag b):¬ rm (a*b)=true:=by
 rw [rm_iff];have:=abs_mul a b;omega
end q
namespace q
open Shelf RowKit Lib
def renMul:Go.Shelf.Ren:=⟨fun|264=>173|n=>n,fun|53=>88|46=>197|n=>n,fun|n=>n⟩
theorem laysMul:Go.Proofs.Lays.n264 Tryz.prog renMul:={
 mixed:=by kernel_rfl
 f264:=Tryz.func173.trans (congrArg some (by kernel_rfl))
 t46:=Tryz.underlying197
 a46:=Tryz.isAgg197
 z46:=Tryz.sizeOf197
 v46:=Tryz.zeroValue197
 t53:=Tryz.underlying88
 a53:=Tryz.isAgg88
 z53:=Tryz.sizeOf88
 v53:=Tryz.zeroValue88}
theorem mul64_any (x y:Nat) (hx:x<18446744073709551616) (hy:y<18446744073709551616) (w:World) :
  Calls Tryz.prog 173 #[.int .u64 (x:Int),.int .u64 (y:Int)] w fun e w'=>e=.returned (.tuple #[.int .u64 ((x*y / 18446744073709551616:Nat):Int),.int .u64 ((x*y % 18446744073709551616:Nat):Int)])∧w=w':=
 Calls.mono (Any.bits_Mul64 laysMul x y hx hy w) fun _ _ h=>⟨h.1,h.2.symm⟩
end q
namespace q
open ChangeShapes WideShapes ChangeAt RowKit
theorem ret2_bool {k:IntKind} {a b:Int} {c d:Bool} (h:a=b) (h':c=d):Ending.returned (.tuple #[.int k a,.bool c])=.returned (.tuple #[.int k b,.bool d]):=by rw [h,h']
theorem ret_int {k:IntKind} {a b:Int} (h:a=b):Ending.returned (.int k a)=.returned (.int k b):=by rw [h]
theorem add_any (a b:Int) (h1:-9223372036854775808≤a) (h2:a≤9223372036854775807) (h3:-9223372036854775808≤b) (h4:b≤9223372036854775807) (w:World) :
  Calls Tryz.prog 154 #[.int .i64 a,.int .i64 b] w fun e w'=>e=.returned (.tuple #[.int .i64 (addV a b),.bool (addB a b)])∧w=w':=by
 have T:=add_test a b h1 h2 h3 h4;by_cases hr:rm (a+b)=true
 ·have hn:¬ bits .and .i64 (bits .xor .i64 a (wrap64 (a+b))) (bits .xor .i64 b (wrap64 (a+b)))<0:=by rw [T];simpa using hr
  have hv:Hid (addV a b=wrap64 (a+b)∧addB a b=true):=Lib.hid ⟨by rw [wrap_add _ hr];exact rv_yes hr,hr⟩;clear T hr;go_enter Tryz.func154,Tryz.ntmps154
  go_wp2;go_ret2
  exact ⟨ret2_bool hv.out.1.symm hv.out.2.symm,rfl⟩
 ·have hn:bits .and .i64 (bits .xor .i64 a (wrap64 (a+b))) (bits .xor .i64 b (wrap64 (a+b)))<0:=by rw [T];exact hr
  have hv:Hid (addV a b=0∧addB a b=false):=Lib.hid ⟨rv_no hr,Bool.eq_false_iff.mpr hr⟩;clear T hr;go_enter Tryz.func154,Tryz.ntmps154
  go_wp2;go_ret2
  exact ⟨ret2_bool hv.out.1.symm hv.out.2.symm,rfl⟩
theorem size_any (a:Int) (h1:-9223372036854775808≤a) (h2:a≤9223372036854775807) (w:World) :
  Calls Tryz.prog 174 #[.int .i64 a] w fun e w'=>e=.returned (.int .u64 ((mag a:Nat):Int))∧w=w':=by
 by_cases hn:a<0
 ·have hv:=Lib.hid (mag_neg a h1 hn)
  go_enter Tryz.func174,Tryz.ntmps174
  go_wp2;go_ret
  exact ⟨ret_int hv.out,rfl⟩
 ·go_enter Tryz.func174,Tryz.ntmps174
  go_wp2;go_ret
  exact ⟨ret_int (by unfold mag;omega),rfl⟩
theorem unlike_any (a b:Int) (w:World) :
  Calls Tryz.prog 176 #[.int .i64 a,.int .i64 b] w fun e w'=>e=.returned (.bool (neq a b))∧w=w':=by
 go_enter Tryz.func176,Tryz.ntmps176
 go_wp2;go_ret
 exact ⟨rfl,rfl⟩
def sgV (n:Nat) (b:Bool):Int:=rv (sgn n b)
def sgB (n:Nat) (b:Bool):Bool:=rm (sgn n b)
theorem signed_any (n:Nat) (b:Bool) (hn:n<18446744073709551616) (w:World) :
  Calls Tryz.prog 175 #[.int .u64 (n:Int),.bool b] w fun e w'=>e=.returned (.tuple #[.int .i64 (sgV n b),.bool (sgB n b)])∧w=w':=by
 cases b
 ·by_cases hr:(n:Int)≤9223372036854775807
  ·have hv:Hid (sgV n false=(n:Int)∧sgB n false=true):=Lib.hid (by
    have:rm (n:Int)=true:=by rw [rm_iff];omega
    exact ⟨rv_yes this,this⟩)
   go_enter Tryz.func175,Tryz.ntmps175
   go_wp2;go_ret2
   exact ⟨ret2_bool hv.out.1.symm hv.out.2.symm,rfl⟩
  ·have hv:Hid (sgV n false=0∧sgB n false=false):=Lib.hid (by
    have:¬ rm (n:Int)=true:=by rw [rm_iff];omega
    exact ⟨rv_no this,Bool.eq_false_iff.mpr this⟩)
   go_enter Tryz.func175,Tryz.ntmps175
   go_wp2;go_ret2
   exact ⟨ret2_bool hv.out.1.symm hv.out.2.symm,rfl⟩
 ·by_cases hr:(n:Int)≤9223372036854775808
  ·have hv:Hid (sgV n true=wrap64 (IntKind.u64.wrap (-n))∧sgB n true=true):=Lib.hid (by
    have:rm (-(n:Int))=true:=by rw [rm_iff];omega
    refine ⟨?_,this⟩
    show rv (-(n:Int))=_
    rw [rv_yes this,IntKind.wrap_u64];unfold wrap64;omega)
   go_enter Tryz.func175,Tryz.ntmps175
   go_wp2;go_ret2
   exact ⟨ret2_bool hv.out.1.symm hv.out.2.symm,rfl⟩
  ·have hv:Hid (sgV n true=0∧sgB n true=false):=Lib.hid (by
    have:¬ rm (-(n:Int))=true:=by rw [rm_iff];omega
    exact ⟨rv_no this,Bool.eq_false_iff.mpr this⟩)
   go_enter Tryz.func175,Tryz.ntmps175
   go_wp2;go_ret2
   exact ⟨ret2_bool hv.out.1.symm hv.out.2.symm,rfl⟩
theorem mul_any (a b:Int) (h1:-9223372036854775808≤a) (h2:a≤9223372036854775807) (h3:-9223372036854775808≤b) (h4:b≤9223372036854775807) (w:World) :
  Calls Tryz.prog 153 #[.int .i64 a,.int .i64 b] w fun e w'=>e=.returned (.tuple #[.int .i64 (mulV a b),.bool (mulB a b)])∧w=w':=by
 have ma:=mag_le a h1 h2;have mb:=mag_le b h3 h4;have HS:=Lib.hid (sgn_mul a b);have HO:=Lib.hid (mul_over a b);by_cases hh:mag a*mag b / 18446744073709551616=0
 ·have hlt:mag a*mag b<18446744073709551616:=by omega
  have hmod:mag a*mag b % 18446744073709551616=mag a*mag b:=Nat.mod_eq_of_lt hlt;have hv:Hid (mulV a b=sgV (mag a*mag b) (neq a b)∧mulB a b=sgB (mag a*mag b) (neq a b)):=Lib.hid (by
   unfold mulV mulB sgV sgB;rw [HS.out];exact ⟨rfl,rfl⟩)
  have cs:=fun (w:World)=>signed_any (mag a*mag b % 18446744073709551616) (neq a b) (by omega) w
  rw [hmod] at cs;have cm:=fun (w:World)=>mul64_any (mag a) (mag b) (by omega) (by omega) w
  rw [hh,hmod] at cm;generalize mag a*mag b=P at *;clear hh hmod;go_enter Tryz.func153,Tryz.ntmps153
  go_wp2_with (first|(go_at_call 174;with_reducible refine (size_any _ (by assumption) (by assumption) _).mono ?_;rintro e w' ⟨rfl,rfl⟩)|(go_at_call 173;with_reducible refine (cm _).mono ?_;rintro e w' ⟨rfl,rfl⟩)|(go_at_call 176;with_reducible refine (unlike_any _ _ _).mono ?_;rintro e w' ⟨rfl,rfl⟩)|(go_at_call 175;with_reducible refine (cs _).mono ?_;rintro e w' ⟨rfl,rfl⟩))
  go_ret2
  exact ⟨ret2_bool hv.out.1.symm hv.out.2.symm,rfl⟩
 ·have hv:Hid (mulV a b=0∧mulB a b=false):=Lib.hid (by
   have:=HO.out (by omega);exact ⟨rv_no this,Bool.eq_false_iff.mpr this⟩)
  have cm:=fun (w:World)=>mul64_any (mag a) (mag b) (by omega) (by omega) w
  generalize mag a*mag b / 18446744073709551616=hi at *;generalize mag a*mag b % 18446744073709551616=lo at *;have hi0:(0:Int)<hi:=by omega
  clear hh HS HO;go_enter Tryz.func153,Tryz.ntmps153
  go_wp2_with (first|(go_at_call 174;with_reducible refine (size_any _ (by assumption) (by assumption) _).mono ?_;rintro e w' ⟨rfl,rfl⟩)|(go_at_call 173;with_reducible refine (cm _).mono ?_;rintro e w' ⟨rfl,rfl⟩))
  go_ret2
  exact ⟨ret2_bool hv.out.1.symm hv.out.2.symm,rfl⟩
end q
namespace tk
open Shelf RowKit Lib
def MaxL (W:World):Prop:=∃ m,W.cell? ⟨1,0,none⟩=some (.int .i64 m)
theorem maxl_of {W:World} (h:W.ShapedOpen Tryz.prog):MaxL W:=
 cell_of_shapedOpen_int h (zero:=#[.int .i64 0]) (t:=3) (of_decide_eq_true (by kernel_rfl)) (by kernel_rfl) (by kernel_rfl) (by kernel_rfl) (by kernel_rfl) Tryz.underlying3
theorem MaxL.lt {w:World} (h:MaxL w):1<w.heap.size:=by
 obtain ⟨m,hm⟩:=h;rcases Nat.lt_or_ge 1 w.heap.size with h'|h'
 ·exact h'
 ·unfold World.cell? at hm
  rw [Array.getElem?_eq_none h'] at hm;simp at hm
theorem MaxL.below {w w':World} (h:MaxL w) (hb:Below w.heap.size w w'):MaxL w':=by
 have hlt:=h.lt;obtain ⟨m,hm⟩:=h;exact ⟨m,(hb.cell (p:=⟨1,0,none⟩) hlt).trans hm⟩
theorem MaxL.under {w w':World} {base:Nat} (h:MaxL w) (h2:1<base) (hb:Below base w w'):MaxL w':=by
 obtain ⟨m,hm⟩:=h;exact ⟨m,(hb.cell (p:=⟨1,0,none⟩) h2).trans hm⟩
def renS:Go.Shelf.Ren:=⟨fun|99=>105|206=>130|145=>106|217=>169|219=>152|220=>131|224=>171|225=>170|266=>182|267=>172|314=>183|316=>155|n=>n,fun|0=>0|3=>3|4=>4|5=>5|9=>9|46=>197|51=>194|59=>152|146=>208|37=>51|127=>86|n=>n,fun|1=>1|n=>n⟩
theorem laysC:Go.Proofs.Lays.n145 Tryz.prog renS:={
 mixed:=by kernel_rfl
 f145:=Tryz.func106.trans (congrArg some (by kernel_rfl))
 f217:=Tryz.func169.trans (congrArg some (by kernel_rfl))
 f219:=Tryz.func152.trans (congrArg some (by kernel_rfl))
 f220:=Tryz.func131.trans (congrArg some (by kernel_rfl))
 f224:=Tryz.func171.trans (congrArg some (by kernel_rfl))
 f225:=Tryz.func170.trans (congrArg some (by kernel_rfl))
 f266:=Tryz.func182.trans (congrArg some (by kernel_rfl))
 f267:=Tryz.func172.trans (congrArg some (by kernel_rfl))
 f314:=Tryz.func183.trans (congrArg some (by kernel_rfl))
 t3:=Tryz.underlying3
 a3:=Tryz.isAgg3
 z3:=Tryz.sizeOf3
 v3:=Tryz.zeroValue3
 t4:=Tryz.underlying4
 a4:=Tryz.isAgg4
 z4:=Tryz.sizeOf4
 v4:=Tryz.zeroValue4
 t5:=Tryz.underlying5
 a5:=Tryz.isAgg5
 z5:=Tryz.sizeOf5
 v5:=Tryz.zeroValue5
 t9:=Tryz.underlying9
 a9:=Tryz.isAgg9
 z9:=Tryz.sizeOf9
 v9:=Tryz.zeroValue9
 t46:=Tryz.underlying197
 a46:=Tryz.isAgg197
 z46:=Tryz.sizeOf197
 v46:=Tryz.zeroValue197
 t51:=Tryz.underlying194
 a51:=Tryz.isAgg194
 z51:=Tryz.sizeOf194
 v51:=Tryz.zeroValue194
 t59:=Tryz.underlying152
 a59:=Tryz.isAgg152
 z59:=Tryz.sizeOf152
 v59:=Tryz.zeroValue152
 t146:=Tryz.underlying208
 a146:=Tryz.isAgg208
 z146:=Tryz.sizeOf208
 v146:=Tryz.zeroValue208
 g1:=by kernel_rfl}
theorem laysP:Go.Proofs.Lays.n99 Tryz.prog renS:={
 mixed:=by kernel_rfl
 f99:=Tryz.func105.trans (congrArg some (by kernel_rfl))
 f206:=Tryz.func130.trans (congrArg some (by kernel_rfl))
 t3:=Tryz.underlying3
 a3:=Tryz.isAgg3
 z3:=Tryz.sizeOf3
 v3:=Tryz.zeroValue3
 t4:=Tryz.underlying4
 a4:=Tryz.isAgg4
 z4:=Tryz.sizeOf4
 v4:=Tryz.zeroValue4
 t9:=Tryz.underlying9
 a9:=Tryz.isAgg9
 z9:=Tryz.sizeOf9
 v9:=Tryz.zeroValue9}
theorem laysN:Go.Proofs.LaysM.n316 Tryz.prog renS:={
 mixed:=by kernel_rfl
 f316:=Tryz.func155.trans (congrArg some (by kernel_rfl))
 t0:=Tryz.underlying0
 a0:=Tryz.isAgg0
 z0:=Tryz.sizeOf0
 v0:=Tryz.zeroValue0
 t3:=Tryz.underlying3
 a3:=Tryz.isAgg3
 z3:=Tryz.sizeOf3
 v3:=Tryz.zeroValue3
 t4:=Tryz.underlying4
 a4:=Tryz.isAgg4
 z4:=Tryz.sizeOf4
 v4:=Tryz.zeroValue4
 t9:=Tryz.underlying9
 a9:=Tryz.isAgg9
 z9:=Tryz.sizeOf9
 v9:=Tryz.zeroValue9
 t37:=Tryz.underlying51
 a37:=Tryz.isAgg51
 z37:=Tryz.sizeOf51
 v37:=Tryz.zeroValue51
 t127:=Tryz.underlying86
 a127:=Tryz.isAgg86
 z127:=Tryz.sizeOf86
 v127:=Tryz.zeroValue86
 t5:=Tryz.underlying5
 a5:=Tryz.isAgg5
 z5:=Tryz.sizeOf5
 v5:=Tryz.zeroValue5
 i0:=by kernel_rfl
 i3:=by kernel_rfl
 i4:=by kernel_rfl
 i5:=by kernel_rfl
 i9:=by kernel_rfl
 i37:=by kernel_rfl
 i127:=by kernel_rfl}
theorem hasPrefix_any (s p:ByteArray) (w:World):Calls Tryz.prog 105 #[.string s,.string p] w fun e w'=>e=.returned (.bool (Lib.hasPrefix s.data.toList p.data.toList))∧w=w':=
 Calls.mono (Any.strings_HasPrefix laysP s p w) fun _ _ h=>⟨h.1,h.2.symm⟩
theorem cut_any (s p:ByteArray) (hs:s.size≤60000) (w:World) (hm:MaxL w):Calls Tryz.prog 106 #[.string s,.string p] w fun e w'=>e=.returned (.tuple #[.string ⟨(Lib.cut s.data.toList p.data.toList).1.toArray⟩,.string ⟨(Lib.cut s.data.toList p.data.toList).2.1.toArray⟩,.bool (Lib.cut s.data.toList p.data.toList).2.2])∧∃ n,w'=w.drewN n:=by
 obtain ⟨m,hm⟩:=hm;exact Any.strings_Cut laysC s p m w (by omega) hm
theorem liteclone_any (s:ByteArray) (hs:s.size≤60000) (w:World):Calls Tryz.prog 155 #[.string s] w fun e w'=>e=.returned (.string s)∧Below w.heap.size w w':=
 Any.stringslite_Clone laysN s w (by omega)
theorem clone_any (s:ByteArray) (hs:s.size≤60000) (w:World):Calls Tryz.prog 139 #[.string s] w fun e w'=>e=.returned (.string s)∧Below w.heap.size w w':=by
 have C:=Lib.hid fun W=>liteclone_any s hs W
 clear hs;go_enter Tryz.func139,Tryz.ntmps139
 go_wp2_with (go_at_call 155;(with_reducible refine (C.out _).mono ?_);rintro e w1 ⟨rfl,hb⟩;have HB:=Lib.hid hb;clear hb)
 go_ret
 exact ⟨rfl,HB.out⟩
end tk
end Go.Proofs.YtdefgghhkknnpaaGreatDoor
