/- Cells of a call's own that are known, whatever a call makes behind them. No condition but what each line says. -/
import Derived.Test.YtdefgghhkknnpaaGreatDoorRows
import Derived.ProofKit
import Derived.OpenShut
import Derived.WalkKit
import Derived.WalkLawsBesides
import Derived.Below
import Derived.ShutString
import Derived.ChangeOld
import Derived.Lib.MinMax
import Derived.Lib.Hide
import Derived.RegionTactic
import Derived.Deep.QuietTactic
import Derived.BigQuiet
import Derived.LoopTactic
import Derived.Deep.Cut
import Derived.Deep.CutRange
import Derived.Deep.RegionHeld3
import Derived.Deep.Grids
import Derived.StillTailTactics
import Derived.Deep.MidRow
import Derived.OrdersHeld
import Derived.Deep.RegionHeld
import Derived.Maps.AppendAt
import Derived.Deep.AppendLies
import Derived.OwnWalk
import Derived.Laws.OwnMore
import Derived.Lib.SmallJoins
set_option linter.unusedVariables false
set_option linter.unusedSimpArgs false
set_option maxRecDepth 100000
set_option maxHeartbeats 40000000
namespace Go.Proofs.YtdefgghhkknnpaaGreatDoor
namespace k
open ChangeShapes WideShapes ChangeAt RowKit
theorem qh {p:Prop} (h:p):Hid p:=h
theorem qq {p q:Prop} (z:Hid p) (h:p→q:=by intro z;omega):q:=h z
theorem lq0 (a:Act) (d:Tmp) (v:Value):a.put (some d) v={a with tmps:=a.tmps.setIfInBounds d v}:=rfl
theorem lq7 (a:Act) (v:Value):a.put none v=a:=rfl
theorem lq1 {α:Type} (l:List α) (i:Nat) (x:α):l.toArray.setIfInBounds i x=(l.set i x).toArray:=List.setIfInBounds_toArray ..
theorem lq2 {α:Type} (l:List α) (x y:α):(x::l).set 0 y=y::l:=rfl
theorem lq3 {α:Type} (l:List α) (n:Nat) (x y:α):(x::l).set (n+1) y=x::l.set n y:=rfl
theorem lq4 {α:Type} {xs:List α} {i:Nat} (h:i<xs.toArray.size):xs.toArray[i]=xs[i]'(by simpa using h):=List.getElem_toArray h
theorem lq5 {α:Type} (a:α) (m:List α) (i:Nat) (h:i+1<(a::m).length):(a::m)[i+1]=m[i]'(Nat.lt_of_succ_lt_succ h):=rfl
theorem lq6 {α:Type} (a:α) (m:List α) (h:0<(a::m).length):(a::m)[0]=a:=rfl
theorem btr {a b c:World} (B:Hid (Below a.heap.size a b)) (h:Below b.heap.size b c):Hid (Below a.heap.size a c):=B.out.trans (h.mono B.out.size)
theorem zbl {n:Nat} {a b:World} (Z:Hid (n<a.heap.size)) (h:Below a.heap.size a b):Hid (n<b.heap.size):=Nat.lt_of_lt_of_le Z.out h.size
theorem lt_of_cell {w:World} {b o:Nat} {v:Value} (h:w.cell? ⟨b,o,none⟩=some v):b<w.heap.size:=by
  rcases Nat.lt_or_ge b w.heap.size with h'|h'
  · exact h'
  · simp [World.cell?,Array.getElem?_eq_none h'] at h
theorem ret_int {k:IntKind} {a b:Int} (h:a=b):Ending.returned (.int k a)=.returned (.int k b):=by rw [h]
theorem ret_bool {a b:Bool} (h:a=b):Ending.returned (.bool a)=.returned (.bool b):=by rw [h]
def Box (w:World) (g:Nat):Nat→List Value→Prop
  | _,[]=>True
  | o,v::vs=>w.cell? ⟨g,o,none⟩=some v∧w.frozen? ⟨g,o,none⟩=false∧Box w g (o+1) vs
theorem Box.below' {w w':World} {g B:Nat} (hb:Below B w w') (hg:g<B):∀ {vs:List Value} {o:Nat},Box w g o vs→Box w' g o vs
  | [],_,_=>trivial
  | v::vs,o,h=>⟨(hb.cell (p:=⟨g,o,none⟩) hg).trans h.1,(hb.frozen (p:=⟨g,o,none⟩) hg).trans h.2.1,Box.below' hb hg h.2.2⟩
theorem Box.below {w w':World} {g B o:Nat} {vs:List Value} (h:Box w g o vs) (hb:Below B w w') (hg:g<B):Box w' g o vs:=Box.below' hb hg h
theorem Box.drawn {w:World} {g:Nat} (n:Nat):∀ {vs:List Value} {o:Nat},Box w g o vs→Box (w.drewN n) g o vs
  | [],_,_=>trivial
  | v::vs,o,h=>⟨h.1,h.2.1,Box.drawn n h.2.2⟩
theorem Box.at {w:World} {g:Nat} {o:Nat} {vs:List Value} (h:∀ i v,vs[i]?=some v→w.cell? ⟨g,o+i,none⟩=some v∧w.frozen? ⟨g,o+i,none⟩=false):Box w g o vs:=by
  induction vs generalizing o with
  | nil=>exact trivial
  | cons v vs ih=>
    refine ⟨(h 0 v rfl).1,(h 0 v rfl).2,ih fun i u hu=>?_⟩;have:=h (i+1) u (by simpa using hu);rwa [show o+(i+1)=o+1+i by omega] at this
theorem Box.new (w:World) (cs:Array Value) (t:TypeId):Box (w.alloc (.cells cs t)) w.heap.size 0 cs.toList:=Box.at fun i v hv=>by
  rw [Nat.zero_add];refine ⟨(World.cell?_alloc_mark w cs t (0,0) i).trans (by simpa using hv),?_⟩;have h:=heap_alloc_new w (.cells cs t);simp only [World.frozen?,h];simp
def puts (w:World) (g:Nat):Nat→List Value→World
  | _,[]=>w
  | o,v::vs=>puts (w.setCell ⟨g,o,none⟩ v) g (o+1) vs
theorem setCell_box {w:World} {g:Nat} (o:Nat) (x:Value):∀ {vs:List Value} {p:Nat},o<p→Box w g p vs→Box (w.setCell ⟨g,o,none⟩ x) g p vs
  | [],_,_,_=>trivial
  | v::vs,p,h,hb=>by
    refine ⟨?_,?_,setCell_box o x (by omega) hb.2.2⟩
    · have hne:¬ p=o:=by omega
      have h2:=hb.1;simp [go_sem,h2];try (intro e;omega)
    · have h2:=hb.2.1
      simp [go_sem,h2]
theorem puts_keep {w:World} {g p:Nat} {v:Value} (h:w.cell? ⟨g,p,none⟩=some v) (hf:w.frozen? ⟨g,p,none⟩=false):∀ (us:List Value) (o:Nat),p<o→(puts w g o us).cell? ⟨g,p,none⟩=some v∧(puts w g o us).frozen? ⟨g,p,none⟩=false:=by
  intro us;induction us generalizing w with
  | nil=>intro o _;exact ⟨h,hf⟩
  | cons u us ih=>
    intro o ho;refine ih (w:=w.setCell ⟨g,o,none⟩ u) ?_ ?_ (o+1) (by omega)
    · simp [go_sem,h]
      try (intro e;omega)
    · simp [go_sem,hf]
theorem Box.puts {g:Nat}:∀ {us vs:List Value} {w:World} {o:Nat},Box w g o vs→us.length=vs.length →
    Box (k.puts w g o us) g o us∧(k.puts w g o us).heap.size=w.heap.size∧∀ B,B≤g→Below B w (k.puts w g o us)
  | [],_,w,o,_,_=>⟨trivial,rfl,fun B _=>Below.refl _ _⟩
  | u::us,[],_,_,_,hl=>by simp at hl
  | u::us,v::vs,w,o,h,hl=>by
    have h1:(w.setCell ⟨g,o,none⟩ u).cell? ⟨g,o,none⟩=some u∧(w.setCell ⟨g,o,none⟩ u).frozen? ⟨g,o,none⟩=false:=by
      have a:=h.1;have b:=h.2.1;constructor<;>simp [go_sem,a,b]
    obtain ⟨i1,i2,i3⟩:=Box.puts (us:=us) (vs:=vs) (w:=w.setCell ⟨g,o,none⟩ u) (o:=o+1) (setCell_box o u (by omega) h.2.2) (by simpa using hl);have h2:=puts_keep h1.1 h1.2 us (o+1) (by omega);refine ⟨⟨h2.1,h2.2,i1⟩,by rw [show k.puts w g o (u::us)=k.puts (w.setCell ⟨g,o,none⟩ u) g (o+1) us from rfl,i2];simp,fun B hB=>(((Below.refl _ _).setCell hB _)).trans (i3 B hB)⟩
theorem below_drawn {B:Nat} {a w:World} (h:Below B a w) (n:Nat):Below B a (w.drewN n):=h.trans ⟨rfl,rfl,rfl,Nat.le_refl _,fun _ _=>rfl⟩
theorem boxes1 {w w':World} {c1:Array Value} {t1:TypeId} (hb:Below (w.alloc (.cells c1 t1)).heap.size (w.alloc (.cells c1 t1)) w') :
    Box w' w.heap.size 0 c1.toList∧Below w.heap.size w w'∧w.heap.size<w'.heap.size:=by
  have hs:(w.alloc (.cells c1 t1)).heap.size=w.heap.size+1:=by simp
  exact ⟨Box.below' hb (by omega) (Box.new w c1 t1),((Below.refl _ _).alloc (Nat.le_refl _) _).trans (hb.mono (by omega)),by have:=hb.size;omega⟩
theorem boxes2 {w w':World} {c1 c2:Array Value} {t1 t2:TypeId} (hb:Below ((w.alloc (.cells c1 t1)).alloc (.cells c2 t2)).heap.size ((w.alloc (.cells c1 t1)).alloc (.cells c2 t2)) w') :
    Box w' w.heap.size 0 c1.toList∧Box w' (w.heap.size+1) 0 c2.toList∧Below w.heap.size w w'∧w.heap.size+1<w'.heap.size:=by
  have hs:(w.alloc (.cells c1 t1)).heap.size=w.heap.size+1:=by simp
  obtain ⟨b2,h2,s2⟩:=boxes1 hb;rw [hs] at b2 s2;obtain ⟨b1,h1,s1⟩:=boxes1 (w:=w) (c1:=c1) (t1:=t1) h2;exact ⟨b1,b2,h1,s2⟩
def IsTruths (w:World) (a:Option Addr) (len cap:Nat) (V:Nat→Bool):Prop:=
  (a=none∧len=0∧cap=0)∨∃ x,a=some x∧len≤cap∧cap≤maxLen∧∀ r,r<cap→w.cell? (x.add r)=some (.bool (V r))
theorem IsTruths.row {w:World} {a:Option Addr} {len cap:Nat} {V:Nat→Bool} (h:IsTruths w a len cap V) (hp:0<len) :
    ∃ b off,a=some ⟨b,off,none⟩∧b<w.heap.size∧len≤cap∧cap≤maxLen∧∀ r,r<len→w.cell? ⟨b,off+r,none⟩=some (.bool (V r)):=by
  rcases h with ⟨_,h,_⟩|⟨x,rfl,hl,hm,hc⟩
  · omega
  · obtain ⟨b,off,spot⟩:=x
    have h0:=hc 0 (by omega);have hspot:spot=none:=by simpa [Addr.add] using World.cell?_spot h0
    subst hspot;have e:∀ r,(Addr.add ⟨b,off,none⟩ r)=⟨b,off+r,none⟩:=fun r=>by unfold Addr.add;by_cases h:r=0<;>simp [h]
    rw [e] at h0;exact ⟨b,off,rfl,lt_of_cell h0,hl,hm,fun r hr=>by have:=hc r (by omega);rw [e] at this;exact this⟩
theorem IsTruths.len {w:World} {a:Option Addr} {len cap:Nat} {V:Nat→Bool} (h:IsTruths w a len cap V):(len:Int)≤9223372036854775807:=by
  rcases h with ⟨_,h,_⟩|⟨x,_,h,h2,_⟩
  · omega
  · unfold maxLen at h2;omega
theorem Box_aside {w:World} {g g' i:Nat} (hne:g'≠g) (x:Value):∀ {vs:List Value} {o:Nat},Box w g o vs→Box (w.setCell ⟨g',i,none⟩ x) g o vs
  | [],_,_=>trivial
  | v::vs,o,h=>by
    refine ⟨?_,?_,Box_aside hne x h.2.2⟩
    · have h2:=h.1
      simp [go_sem,h2];try (intro e;exact absurd e.symm hne)
    · have h2:=h.2.1
      simp [go_sem,h2]
def Above (lo:Nat) (w w':World):Prop:=∀ b o,lo≤b→w'.cell? ⟨b,o,none⟩=w.cell? ⟨b,o,none⟩
theorem Above.refl (lo:Nat) (w:World):Above lo w w:=fun _ _ _=>rfl
theorem Above.trans {lo:Nat} {a b c:World} (h:Above lo a b) (h2:Above lo b c):Above lo a c:=fun x o hx=>(h2 x o hx).trans (h x o hx)
theorem Above.set {lo g i:Nat} {w w':World} (h:Above lo w w') (hg:g<lo) (x:Value):Above lo w (w'.setCell ⟨g,i,none⟩ x):=fun b o hb=>by
  have hne:¬ b=g:=by omega
  have hne2:¬ g=b:=by omega
  rw [←h b o hb];simp [go_sem]
theorem Above.puts {lo g:Nat} (hg:g<lo):∀ {vs:List Value} {o:Nat} {w w':World},Above lo w w'→Above lo w (k.puts w' g o vs)
  | [],_,_,_,h=>h
  | v::vs,o,_,_,h=>Above.puts hg (vs:=vs) (o:=o+1) (h.set hg v)
theorem setCells_puts (g:Nat):∀ (vs:List Value) (o:Nat) (w:World),w.setCells g o vs=k.puts w g o vs
  | [],_,_=>rfl
  | v::vs,o,w=>by rw [World.setCells,k.puts,setCells_puts g vs (o+1)]
theorem Box.there {w:World} {g:Nat}:∀ {vs:List Value} {o:Nat},Box w g o vs→w.there g o vs.length
  | [],_,_=>fun j hj=>absurd hj (by simp)
  | v::vs,o,h=>fun j hj=>by
    cases j with
    | zero=>exact ⟨by rw [Nat.add_zero,h.1];rfl,by rw [Nat.add_zero];exact h.2.1⟩
    | succ j=>
      have h1:=Box.there h.2.2 j (by simpa using hj);rw [show o+1+j=o+(j+1) by omega] at h1;exact h1
theorem Box.range {w:World} {g:Nat}:∀ {vs:List Value} {o:Nat},Box w g o vs→w.rangeAt g o vs
  | [],_,_=>fun j v hv=>absurd hv (by simp)
  | u::vs,o,h=>fun j v hv=>by
    cases j with
    | zero=>rw [Nat.add_zero,h.1];simpa using hv
    | succ j=>
      have h1:=Box.range h.2.2 j v (by simpa using hv);rw [show o+1+j=o+(j+1) by omega] at h1;exact h1
theorem setCell_before {w:World} {g:Nat} (i:Nat) (x:Value) {vs:List Value} {o:Nat} (hi:i<o) (h:Box w g o vs):Box (w.setCell ⟨g,i,none⟩ x) g o vs:=setCell_box i x hi h
theorem Box.set {w:World} {g:Nat} (x:Value):∀ {vs:List Value} {o i:Nat},Box w g o vs→i<vs.length→Box (w.setCell ⟨g,o+i,none⟩ x) g o (vs.set i x)
  | [],_,_,_,hi=>absurd hi (by simp)
  | u::vs,o,i,h,hi=>by
    cases i with
    | zero=>
      have a:=h.1;have b:=h.2.1;refine ⟨?_,?_,setCell_before o x (by omega) h.2.2⟩<;>simp [go_sem,a,b]
    | succ i=>
      have a:=h.1;have b:=h.2.1;have hr:=Box.set x (vs:=vs) (o:=o+1) (i:=i) h.2.2 (by simpa using hi);rw [show o+1+i=o+(i+1) by omega] at hr;refine ⟨?_,?_,hr⟩
      · simp [go_sem,a]
        try (intro e;omega)
      · simp [go_sem,b]
theorem Box.at' {w:World} {g:Nat}:∀ {vs:List Value} {o i:Nat} {v:Value},Box w g o vs→vs[i]?=some v→w.cell? ⟨g,o+i,none⟩=some v∧w.frozen? ⟨g,o+i,none⟩=false
  | [],_,_,_,_,h=>by simp at h
  | u::vs,o,i,v,h,hv=>by
    cases i with
    | zero=>
      have e:u=v:=by simpa using hv
      rw [Nat.add_zero,←e];exact ⟨h.1,h.2.1⟩
    | succ i=>
      have:=Box.at' (i:=i) h.2.2 (by simpa using hv);rwa [show o+1+i=o+(i+1) by omega] at this
theorem cell_of {w:World} {g:Nat} {vs:List Value} (h:Box w g 0 vs) {i:Nat} {v:Value} (hv:vs[i]?=some v):w.cell? ⟨g,i,none⟩=some v∧w.frozen? ⟨g,i,none⟩=false:=by
  have:=Box.at' h hv;rwa [Nat.zero_add] at this
theorem Box.put {w:World} {g:Nat} {vs:List Value} (h:Box w g 0 vs) (i:Nat) (hi:i<vs.length) (x:Value):Box (w.setCell ⟨g,i,none⟩ x) g 0 (vs.set i x):=by
  have:=Box.set x h hi;rwa [Nat.zero_add] at this
theorem stored {w:World} {g:Nat} {us vs:List Value} (h:Box w g 0 vs) (hl:us.length=vs.length) :
    ∃ W,w.setCells g 0 us=W∧Box W g 0 us∧W.heap.size=w.heap.size∧(∀ B,B≤g→Below B w W)∧∀ lo,g<lo→Above lo w W:=by
  obtain ⟨h1,h2,h3⟩:=Box.puts (us:=us) h hl;exact ⟨k.puts w g 0 us,setCells_puts g us 0 w,h1,h2,h3,fun lo hlo=>Above.puts hlo (Above.refl lo w)⟩
theorem results_cell {P:Program} {fn:Func} {t:Tmp} {T:TypeId} (h:fn.results=#[.cell t T]) {tmps:Array Value} {w:World} {b o:Nat} {v:Value} (ht:tmps.getD t undef=.pointer (some ⟨b,o,none⟩))
    (hl:(loadVar T ⟨b,o,none⟩).run P w=.ok v w):(results fn tmps).run P w=.ok v w:=by
  have ha:(asAddr (.pointer (some ⟨b,o,none⟩)):Sem Addr)=pure ⟨b,o,none⟩:=rfl;have ht2:tmps[t]?.getD undef=.pointer (some ⟨b,o,none⟩):=by rw [←ht];simp
  rw [results,h];simp [ht2,ha,hl]
theorem results_cell_tmp {P:Program} {fn:Func} {t u:Tmp} {T:TypeId} (h:fn.results=#[.cell t T,.tmp u]) {tmps:Array Value} {w:World} {b o:Nat} {v:Value} (ht:tmps.getD t undef=.pointer (some ⟨b,o,none⟩))
    (hl:(loadVar T ⟨b,o,none⟩).run P w=.ok v w):(results fn tmps).run P w=.ok (.tuple #[v,tmps.getD u undef]) w:=by
  have ha:(asAddr (.pointer (some ⟨b,o,none⟩)):Sem Addr)=pure ⟨b,o,none⟩:=rfl;have ht2:tmps[t]?.getD undef=.pointer (some ⟨b,o,none⟩):=by rw [←ht];simp
  rw [results,h];simp [ht2,ha,hl]
theorem Box_puts_aside {g g':Nat} (hne:g'≠g) {vs:List Value} {o:Nat}:∀ (us:List Value) (o':Nat) (w:World),Box w g o vs→Box (k.puts w g' o' us) g o vs
  | [],_,_,h=>h
  | u::us,o',w,h=>Box_puts_aside hne us (o'+1) _ (Box_aside hne u h)
theorem aside_stored {w W:World} {g g' o:Nat} {us vs:List Value} (hW:w.setCells g' 0 us=W) (hne:g'≠g) (h:Box w g o vs):Box W g o vs:=by
  rw [←hW,setCells_puts];exact Box_puts_aside hne us 0 w h
theorem load_wanted {P:Program} {ops:Array Oper} {rest:List Oper} {op:Oper} {a:Act} {w:World} {Q:Exit→Act→World→Prop} (hw:Region.wanted op (yielded ops a.tmps)=true) (ty:TypeId) (x:Operand) (ho:op.op=.load ty x)
    (b o:Nat) (hx:a.eval x=.pointer (some ⟨b,o,none⟩)) (cs:List Value) (d:TypeDesc) (hc:w.rangeAt b o cs)
    (hu:P.underlying ty=some d) (hd:d.isRow=true) (hi:(P.info? ty).map (·.size)=some cs.length)
    (h:wpList P ops Q rest (a.put op.dst (.agg cs.toArray)) w):wpList P ops Q (op::rest) a w:=
  wpList_step fun K hK=>by rw [if_pos hw];exact wp_load_mid ty x ho b o hx cs d hc hu hd hi (hK _ _ h)
theorem below1 (g:Nat) (w:World) (i:Nat) (x:Value):Below g w (w.setCell ⟨g,i,none⟩ x):=(Below.refl g w).setCell (Nat.le_refl g) x
theorem there_of {w:World} {g n:Nat} {vs:List Value} (h:Box w g 0 vs) (hl:vs.length=n):w.there g 0 n:=hl ▸ h.there
end k
namespace k
open Go
def fresh (sp:List Nat) (listed:Array Bool):Bool:=sp.all fun k=>!listed.getD k false
def waits (md:Region.Mode) (ops:Array Oper):Nat→Nat→Nat→Bool
  | 0,_,_=>false
  | f+1,k,i=>match ops[k]? with
    | none=>false
    | some o=>o.after.any fun e=>Region.binds md e&&(e.on==i||waits md ops f e.on i)
def closed (md:Region.Mode) (ops:Array Oper) (listed:Array Bool):Prop:=
  ∀ k o,ops[k]?=some o→listed.getD k false=true→∀ e∈o.after,Region.binds md e=true→listed.getD e.on false=true
def closedB (md:Region.Mode) (ops:Array Oper) (listed:Array Bool):Bool:=
  (List.range ops.size).all fun k=>!listed.getD k false||match ops[k]? with
    | none=>true
    | some o=>o.after.all fun e=>!Region.binds md e||listed.getD e.on false
section
variable {P:Program} {ops:Array Oper} {Q:Exit→Act→World→Prop} {md:Region.Mode} {T:World→Prop} {sp:List Nat}
theorem closedB_spec {listed:Array Bool} (h:closedB md ops listed=true):closed md ops listed:=fun k o ho hk e he hb=>by
  unfold closedB at h;rw [List.all_eq_true] at h;have h1:=h k (List.mem_range.2 (Array.getElem?_eq_some_iff.1 ho).1);rw [hk,ho] at h1;simp only [Bool.not_true,Bool.false_or] at h1;have h2:=Array.all_eq_true_iff_forall_mem.1 h1 e he;rw [hb] at h2;simpa using h2
theorem waits_unlisted {listed:Array Bool} (hc:closed md ops listed) {i:Nat} (hi:listed.getD i false=false):∀ (f k:Nat),waits md ops f k i=true→listed.getD k false=false
  | 0,k,h=>by cases h
  | f+1,k,h=>by
    unfold waits at h;split at h
    · cases h
    · rename_i o ho
      obtain ⟨e,he,hb⟩:=Array.any_eq_true'.1 h;rw [Bool.and_eq_true] at hb;cases hk:listed.getD k false
      · rfl
      · have h1:=hc k o ho hk e he hb.1
        have h2:=hb.2;rw [Bool.or_eq_true,beq_iff_eq] at h2;rcases h2 with h2|h2
        · rw [h2,hi] at h1;cases h1
        · rw [waits_unlisted hc hi f e.on h2] at h1;cases h1
theorem getD_ft {listed:Array Bool} {i:Nat} (h:listed.getD i true=false):listed.getD i false=false:=by
  rcases Nat.lt_or_ge i listed.size with h'|h'
  · simp [h'] at h ⊢;exact h
  · simp [Array.getElem?_eq_none h'] at h
theorem closed_set {listed:Array Bool} (hc:closed md ops listed) {j:Nat} (hj:j∈Region.ready md ops listed):closed md ops (listed.setIfInBounds j true):=fun k o ho hk e he hb=>by
  obtain ⟨h0,oj,hoj,hall⟩:=mem_ready.1 hj;by_cases hkj:j=k
  · subst hkj
    rw [hoj] at ho;injection ho with ho
    subst ho;exact getD_set_true (hall e he hb)
  · rw [getD_set_ne false hkj] at hk
    exact getD_set_true (hc k o ho hk e he hb)
theorem fresh_set {listed:Array Bool} {i:Nat} (hi:sp.all (fun k=>!(k==i))=true) (h:fresh sp listed=true):fresh sp (listed.setIfInBounds i true)=true:=by
  unfold fresh at *;rw [List.all_eq_true] at *;intro k hk;have h1:=hi k hk;have h2:=h k hk;rw [getD_set_ne false (fun e=>by subst e;simp at h1)];exact h2
def wpAnyT (P:Program) (md:Region.Mode) (ops:Array Oper) (Q:Exit→Act→World→Prop) (T:World→Prop) (sp:List Nat):Nat→Array Bool→Act→World→Prop
  | 0,listed,a,w=>Region.ready md ops listed=[]∧Q .normal a w
  | fuel+1,listed,a,w=>
    (Region.ready md ops listed=[]→Q .normal a w) ∧
    ∀ i∈Region.ready md ops listed,wpOp P ops Q i (fun a' w'=>(fresh sp (listed.setIfInBounds i true)=true→T w')∧wpAnyT P md ops Q T sp fuel (listed.setIfInBounds i true) a' w') a w
theorem wpAny_of_T:∀ (fuel:Nat) (listed:Array Bool) (a:Act) (w:World),wpAnyT P md ops Q T sp fuel listed a w→wpAny P md ops Q fuel listed a w
  | 0,_,_,_,h=>h
  | fuel+1,_,_,_,h=>⟨h.1,fun i hi=>wpOp_mono (fun a' w' h'=>wpAny_of_T fuel _ a' w' h'.2) (h.2 i hi)⟩
theorem wpAnyT_first {i:Nat} {oi:Oper} {v:Value} (hi:ops[i]?=some oi) (hsel:∀ (j:Nat) (o:Oper) cs b,ops[j]?=some o→o.op≠.select cs b)
    (hQ:∀ c a w,Q (.panic c) (a.put oi.dst v) w→Q (.panic c) a w) (hw:∀ k∈sp,∃ f,waits md ops f k i=true) (hne:sp.all (fun k=>!(k==i))=true) :
    ∀ (fuel:Nat) (listed:Array Bool) (a:Act) (w:World),closed md ops listed →
      (∀ j oj,ops[j]?=some oj→j≠i→listed.getD j true=false→(∀ e∈oj.after,Region.binds md e=true→e.on≠i)→oi.apart ops oj=true) →
      i∈Region.ready md ops listed→YieldsIf P ops T oi v a→T w →
      wpAnyT P md ops Q T sp fuel (listed.setIfInBounds i true) (a.put oi.dst v) w→wpAnyT P md ops Q T sp (fuel+1) listed a w:=by
  intro fuel;induction fuel with
  | zero=>
    intro listed a w _ _ hr hy hT H;refine ⟨fun h=>(by rw [h] at hr;cases hr),fun j hj=>?_⟩;by_cases hji:j=i
    · subst hji;exact hy.wpOp hi hT ⟨fun _=>hT,H⟩
    · have:=ready_mono hj hji
      rw [H.1] at this;cases this
  | succ fuel ih=>
    intro listed a w hcl hfree hr hy hT H;refine ⟨fun h=>(by rw [h] at hr;cases hr),fun j hj=>?_⟩;by_cases hji:j=i
    · subst hji;exact hy.wpOp hi hT ⟨fun _=>hT,H⟩
    · have h1:=H.2 j (ready_mono hj hji)
      obtain ⟨hjun,oj,hoj,hall⟩:=mem_ready.1 hj;have hiun:=(mem_ready.1 hr).1;have hnot:∀ e∈oj.after,Region.binds md e=true→e.on≠i:=fun e he hb heq=>by
        have h1:=hall e he hb;rw [heq,getD_ft hiun] at h1;cases h1
      have h2:=wpOp_putIf hoj (hfree j oj hoj hji hjun hnot) (fun cs b=>hsel i oi cs b hi) (fun cs b=>hsel j oj cs b hoj) hQ hy h1;have hfree':∀ k ok,ops[k]?=some ok→k≠i→(listed.setIfInBounds j true).getD k true=false →
          (∀ e∈ok.after,Region.binds md e=true→e.on≠i)→oi.apart ops ok=true:=fun k ok hk hki hun hno=>by
        refine hfree k ok hk hki ?_ hno;by_cases hjk:j=k
        · subst hjk;exact hjun
        · rw [getD_set_ne true hjk] at hun;exact hun
      have hcl':=closed_set hcl hj;have hi':(listed.setIfInBounds j true).getD i false=false:=by rw [getD_set_ne false hji];exact getD_ft hiun
      have hfr:fresh sp (listed.setIfInBounds j true)=true:=by
        unfold fresh;rw [List.all_eq_true];intro k hk;obtain ⟨f,hf⟩:=hw k hk;rw [waits_unlisted hcl' hi' f k hf];rfl
      refine wpOp_mono (fun a' w' h3=>?_) h2;have h4:=h3.2;rw [Array.setIfInBounds_comm _ _ (Ne.symm hji)] at h4;have hT':T w':=h4.1 (fresh_set hne hfr);exact ⟨fun _=>hT',ih (listed.setIfInBounds j true) a' w' hcl' hfree' (ready_mono hr (Ne.symm hji)) h3.1 hT' h4.2⟩
theorem wpAnyT_take {i:Nat} {oi:Oper} {v:Value} {fuel:Nat} {listed:Array Bool} {a:Act} {w:World} (hi:ops[i]?=some oi)
    (hs:Region.noSelect ops=true) (hf:(Region.free md ops listed i&&closedB md ops listed&&(sp.all fun k=>waits md ops ops.size k i&&!(k==i)))=true) (hr:(Region.ready md ops listed).contains i=true)
    (hQ:∀ c a w,Q (.panic c) (a.put oi.dst v) w→Q (.panic c) a w) (hy:YieldsIf P ops T oi v a) (hT:T w)
    (h:wpAnyT P md ops Q T sp fuel (listed.setIfInBounds i true) (a.put oi.dst v) w):wpAnyT P md ops Q T sp (fuel+1) listed a w:=by
  rw [Bool.and_eq_true,Bool.and_eq_true] at hf;obtain ⟨⟨h1,h2⟩,h3⟩:=hf;rw [List.all_eq_true] at h3;refine wpAnyT_first hi (Region.noSelect_spec hs) hQ (fun k hk=>⟨ops.size,?_⟩) ?_ fuel listed a w (closedB_spec h2) (Region.free_spec hi h1) (by simpa using hr) hy hT h
  · have:=h3 k hk
    rw [Bool.and_eq_true] at this;exact this.1
  · rw [List.all_eq_true]
    intro k hk;have:=h3 k hk;rw [Bool.and_eq_true] at this;exact this.2
theorem tkq {i:Nat} {oi:Oper} {v:Value} {fuel:Nat} {listed:Array Bool} {a:Act} {w:World} (hi:ops[i]?=some oi) (hy:∀ w,T w→(execOp a.eval oi).run P w=.ok (.value v) w)
    (h:wpAnyT P md ops Q T sp fuel (listed.setIfInBounds i true) (a.put oi.dst v) w)
    (hs:Region.noSelect ops=true:=by kernel_rfl) (hf:(Region.free md ops listed i&&closedB md ops listed&&(sp.all fun k=>waits md ops ops.size k i&&!(k==i)))=true:=by kernel_rfl) (hr:(Region.ready md ops listed).contains i=true:=by kernel_rfl)
    (hQ:∀ c a w,Q (.panic c) (a.put oi.dst v) w→Q (.panic c) a w:=by exact fun _ _ _ h=>h) (hw:Region.wanted oi (yielded ops a.tmps)=true:=by rfl) (hT:T w:=by assumption):wpAnyT P md ops Q T sp (fuel+1) listed a w:=
  wpAnyT_take hi hs hf hr hQ (Or.inl ⟨hw,hy⟩) hT h
theorem tkr {i:Nat} {oi:Oper} {v:Value} {fuel:Nat} {listed:Array Bool} {a:Act} {w:World} (hi:ops[i]?=some oi)
 (h:wpAnyT P md ops Q T sp fuel (listed.setIfInBounds i true) (a.put oi.dst v) w)
 (hy:∀ w,T w→(execOp a.eval oi).run P w=.ok (.value v) w:=by (intro w_ hSw;clear hSw;go_simp<;>(with_reducible rfl)))
 (hs:Region.noSelect ops=true:=by kernel_rfl) (hf:(Region.free md ops listed i&&closedB md ops listed&&(sp.all fun k=>waits md ops ops.size k i&&!(k==i)))=true:=by kernel_rfl) (hr:(Region.ready md ops listed).contains i=true:=by kernel_rfl)
 (hQ:∀ c a w,Q (.panic c) (a.put oi.dst v) w→Q (.panic c) a w:=by exact fun _ _ _ h=>h) (hw:Region.wanted oi (yielded ops a.tmps)=true:=by rfl) (hT:T w:=by assumption):wpAnyT P md ops Q T sp (fuel+1) listed a w:=
 tkq hi hy h hs hf hr hQ hw hT
def AllReadyT (P:Program) (md:Region.Mode) (ops:Array Oper) (Q:Exit→Act→World→Prop) (T:World→Prop) (sp:List Nat) (fuel:Nat) (listed:Array Bool) (a:Act) (w:World) (rs:List Nat):Prop:=
  ∀ i∈rs,wpOp P ops Q i (fun a' w'=>(fresh sp (listed.setIfInBounds i true)=true→T w')∧wpAnyT P md ops Q T sp fuel (listed.setIfInBounds i true) a' w') a w
theorem AllReadyT.nil {fuel:Nat} {listed:Array Bool} {a:Act} {w:World}:AllReadyT P md ops Q T sp fuel listed a w []:=fun _ h=>by cases h
theorem AllReadyT.cons {fuel:Nat} {listed:Array Bool} {a:Act} {w:World} {i:Nat} {o:Oper} {rs:List Nat} (ho:ops[i]?=some o)
    (h:∀ K':Act→World→Prop,Shut (∀ a w,T w→(T w→wpAnyT P md ops Q T sp fuel (listed.setIfInBounds i true) a w)→K' a w)→if Region.wanted o (yielded ops a.tmps)=true then Oper.wp P o a w K' Q else K' (a.put o.dst undef) w)
    (hs:AllReadyT P md ops Q T sp fuel listed a w rs):AllReadyT P md ops Q T sp fuel listed a w (i::rs):=fun j hj=>by
  rcases List.mem_cons.1 hj with rfl|hj
  · exact wpOp_step ho (fun K' hK=>h K' (fun a w hT hW=>hK a w ⟨fun _=>hT,hW hT⟩))
  · exact hs j hj
theorem AllReadyT.spoilt {fuel:Nat} {listed:Array Bool} {a:Act} {w:World} {i:Nat} {o:Oper} {rs:List Nat} (ho:ops[i]?=some o) (hf:fresh sp (listed.setIfInBounds i true)=false)
    (h:∀ K':Act→World→Prop,Shut (∀ a w,wpAnyT P md ops Q T sp fuel (listed.setIfInBounds i true) a w→K' a w)→if Region.wanted o (yielded ops a.tmps)=true then Oper.wp P o a w K' Q else K' (a.put o.dst undef) w)
    (hs:AllReadyT P md ops Q T sp fuel listed a w rs):AllReadyT P md ops Q T sp fuel listed a w (i::rs):=fun j hj=>by
  rcases List.mem_cons.1 hj with rfl|hj
  · exact wpOp_step ho (fun K' hK=>h K' (fun a w hW=>hK a w ⟨fun h2=>absurd (hf.symm.trans h2) (by simp),hW⟩))
  · exact hs j hj
theorem wpAnyT_ready {rs:List Nat} {fuel:Nat} {listed:Array Bool} {a:Act} {w:World} (hr:Region.ready md ops listed=rs) (hne:rs≠[])
    (h:AllReadyT P md ops Q T sp fuel listed a w rs):wpAnyT P md ops Q T sp (fuel+1) listed a w:=
  ⟨fun h0=>absurd (hr ▸ h0) hne,hr ▸ h⟩
theorem wpAnyT_done {listed:Array Bool} {a:Act} {w:World} (hr:Region.ready md ops listed=[]) (h:Q .normal a w):∀ fuel,wpAnyT P md ops Q T sp fuel listed a w
  | 0=>⟨hr,h⟩
  | _+1=>⟨fun _=>h,by rw [hr];simp⟩
theorem wp_region_T {id:Nat} {a:Act} {w:World} (hm:P.follows .mixedOrders=true) (T:World→Prop) (sp:List Nat) (hT:T w.drew)
    (h:T w.drew→wpAnyT P .any ops Q T sp ops.size (Array.replicate ops.size false) a w.drew):(Code.region id ops true).wp P Q a w:=
  wp_region_any hm (wpAny_of_T _ _ _ _ (h hT))
def left (n:Nat) (listed:Array Bool):Nat:=(List.range n).countP fun i=>!listed.getD i true
end
end k
namespace rr
open ChangeShapes WideShapes ChangeAt RowKit Joins k
section
variable {α:Type} (enc:α→List Value) (z:Nat)
theorem flat_len (hz:∀ x,(enc x).length=z) (L:List α):(L.flatMap enc).length=L.length*z:=by
  induction L with
  | nil=>simp
  | cons x L ih=>rw [List.flatMap_cons,List.length_append,hz,ih,List.length_cons,Nat.succ_mul,Nat.add_comm]
theorem flat_at (hz:∀ x,(enc x).length=z):∀ (L:List α) (i f:Nat) (x:α),L[i]?=some x→f<z→(L.flatMap enc)[i*z+f]?=(enc x)[f]?
  | [],i,f,x,h,_=>by simp at h
  | y::L,0,f,x,h,hf=>by
    have e:y=x:=by simpa using h
    rw [List.flatMap_cons,Nat.zero_mul,Nat.zero_add,List.getElem?_append_left (by rw [hz];exact hf),e]
  | y::L,i+1,f,x,h,hf=>by
    rw [List.flatMap_cons,List.getElem?_append_right (by rw [hz,Nat.succ_mul];omega),hz,show (i+1)*z+f-z=i*z+f by rw [Nat.succ_mul];omega];exact flat_at hz L i f x (by simpa using h) hf
theorem flat_inv (hz:∀ x,(enc x).length=z) (hp:0<z) (L:List α) (j:Nat) (u:Value) (h:(L.flatMap enc)[j]?=some u):∃ x,L[j / z]?=some x∧(enc x)[j % z]?=some u:=by
  have hj:j<L.length*z:=by
    have h1:j<(L.flatMap enc).length:=(List.getElem?_eq_some_iff.1 h).1;rwa [flat_len enc z hz] at h1
  have hi:j / z<L.length:=(Nat.div_lt_iff_lt_mul hp).2 hj;refine ⟨L[j / z],List.getElem?_eq_getElem hi,?_⟩;rw [←flat_at enc z hz L (j / z) (j % z) _ (List.getElem?_eq_getElem hi) (Nat.mod_lt _ hp),Nat.mul_comm,Nat.div_add_mod,h]
def Rd (w:World) (B:Nat) (A:Option Addr) (n cap:Nat) (L:List α):Prop:=
  L.length=n∧n≤cap∧cap≤maxLen∧(A=none→cap=0)∧(0<n→∃ b off,A=some ⟨b,off,none⟩∧b<B∧∀ i x,L[i]?=some x→w.rangeAt b (off+i*z) (enc x))
def Ow (t:TypeId) (w:World) (base:Nat) (v:Value) (L:List α):Prop:=w.ownsRow base t z v L.length (L.flatMap enc)
end
section
variable {α:Type} {enc:α→List Value} {z:Nat} {w w':World} {B:Nat} {A:Option Addr} {n cap:Nat} {L:List α}
theorem range_below {b o:Nat} {vs:List Value} (h:w.rangeAt b o vs) (hb:Below B w w') (hB:b<B):w'.rangeAt b o vs:=fun j v hv=>(hb.cell (p:=⟨b,o+j,none⟩) hB).trans (h j v hv)
theorem Rd.below (h:Rd enc z w B A n cap L) (hb:Below B w w'):Rd enc z w' B A n cap L:=
  ⟨h.1,h.2.1,h.2.2.1,h.2.2.2.1,fun hn=>by
    obtain ⟨b,off,e,hB,hc⟩:=h.2.2.2.2 hn;exact ⟨b,off,e,hB,fun i x hx=>range_below (hc i x hx) hb hB⟩⟩
theorem Rd.more {B':Nat} (h:Rd enc z w B A n cap L) (hB:B≤B'):Rd enc z w B' A n cap L:=
  ⟨h.1,h.2.1,h.2.2.1,h.2.2.2.1,fun hn=>by
    obtain ⟨b,off,e,hb,hc⟩:=h.2.2.2.2 hn;exact ⟨b,off,e,by omega,hc⟩⟩
theorem Rd.len_le (h:Rd enc z w B A n cap L):(n:Int)≤9223372036854775807:=by
  have h1:=h.2.1;have h2:=h.2.2.1;unfold maxLen at h2;omega
theorem Rd.at (h:Rd enc z w B A n cap L) {i:Nat} (hi:i<n):∃ b off x,A=some ⟨b,off,none⟩∧b<B∧L[i]?=some x∧w.rangeAt b (off+i*z) (enc x):=by
  obtain ⟨b,off,e,hb,hc⟩:=h.2.2.2.2 (by omega);have hl:i<L.length:=by rw [h.1];exact hi
  exact ⟨b,off,L[i],e,hb,List.getElem?_eq_getElem hl,hc i _ (List.getElem?_eq_getElem hl)⟩
theorem Rd.none_ (enc:α→List Value) (z:Nat) (w:World) (B:Nat):Rd enc z w B none 0 0 []:=⟨rfl,Nat.le_refl _,by unfold maxLen;omega,fun _=>rfl,fun h=>absurd h (by omega)⟩
theorem Rd.drewN (h:Rd enc z w B A n cap L) (q:Nat):Rd enc z (w.drewN q) B A n cap L:=h
variable {t:TypeId} {base:Nat} {v:Value}
theorem Ow.form (hz:∀ x,(enc x).length=z) (h:Ow enc z t w base v L):∃ A cap,v=.slice A L.length cap∧Rd enc z w w.heap.size A L.length cap L:=by
  rcases h.2 with ⟨rfl,h0⟩|⟨g,cap,cur,rfl,hb,hg,hle,hmax,hcs,htake⟩
  · exact ⟨none,0,by rw [h0],rfl,by omega,by unfold maxLen;omega,fun _=>rfl,fun hn=>absurd hn (by omega)⟩
  · refine ⟨_,cap,rfl,rfl,hle,hmax,(fun h=>by cases h),fun hn=>⟨g,0,rfl,(Array.getElem?_eq_some_iff.1 hg).1,fun i x hx f u hu=>?_⟩⟩
    have hf:f<z:=by have:=(List.getElem?_eq_some_iff.1 hu).1;rwa [hz] at this
    have hc:=World.ownsRow.cells (g:=g) h rfl (i*z+f) u (by rw [flat_at enc z hz L i f x hx hf,hu]);have e:(Addr.add ⟨g,0,none⟩ (i*z+f))=⟨g,0+i*z+f,none⟩:=by
      unfold Addr.add;by_cases h:i*z+f=0<;>simp [h];omega
    rw [e] at hc;exact hc
theorem Ow.kept {row:Option Nat} (h:Ow enc z t w base v L) (hg:w.grownBy w' row) (hne:v.ownBlock=none∨v.ownBlock≠row):Ow enc z t w' base v L:=World.ownsRow.kept h hg hne
theorem Ow.under (hO:Ow enc z t w base v L) (hb:Below w.heap.size w w'):Ow enc z t w' base v L:=
  hO.kept (row:=.none) ⟨hb.os,hb.tape,hb.output,hb.size,fun k hk _=>hb.block k hk⟩ (by cases v.ownBlock<;>simp)
theorem Ow.drewN (h:Ow enc z t w base v L) (q:Nat):Ow enc z t (w.drewN q) base v L:=h
theorem Ow.lays {a:World} (hO:Ow enc z t w base v L) (h:Below B a w) (hB:B≤base) (hz:B≤a.heap.size) (hg:w.grownBy w' v.ownBlock):Below B a w':=
  h.grown hg (Nat.le_trans hz h.size) fun b hb=>Nat.le_trans hB (hO.lt b hb).1
theorem Ow.nil (enc:α→List Value) (z:Nat) (t:TypeId) (w:World) (base:Nat):Ow enc z t w base (.slice none 0 0) []:=World.ownsRow_nil _ _ _ _
end
theorem Ow.base {α:Type} {enc:α→List Value} {z:Nat} {w:World} {t:TypeId} {b b':Nat} {v:Value} {L:List α} (h:Ow enc z t w b v L) (hb:b'≤b):Ow enc z t w b' v L:=ownsRow_le h hb
theorem info_parts {P:Program} {t:TypeId} {zv:Value} {size bytes:Nat} (h:(P.info? t).map (fun i=>(i.zero,i.size,i.bytes))=some (some zv,size,bytes)):∃ i,P.info? t=some i∧i.zero=some zv∧i.size=size∧i.bytes=bytes:=by
  cases hi:P.info? t with
  | none=>rw [hi] at h;cases h
  | some i=>
    rw [hi] at h;simp only [Option.map_some,Option.some.injEq,Prod.mk.injEq] at h;exact ⟨i,rfl,h.1,h.2.1,h.2.2⟩
section
variable {P:Program} {α:Type} {enc:α→List Value} {z:Nat}
theorem append_row (hz:∀ x,(enc x).length=z) (hp:0<z) (h1:∀ x,∀ u∈enc x,u.oneCell'=true) {t e:TypeId} {zv:Value} {bytes:Nat} (ht:P.underlying t=some (.slice e)) (hi:(P.info? e).map (fun i=>(i.zero,i.size,i.bytes))=some (some zv,z,bytes))
    (hzs:zv.cells.size=z) (hby:bytes≤10000) (w:World) (base ty:Nat) (v:Value) (l:List α) (hown:Ow enc z e w base v l) (B:Nat) (A:Option Addr) (n cap:Nat) (k:List α)
    (hk:Rd enc z w B A n cap k) (hlen:l.length+k.length≤60000) (hbase:base≤w.heap.size) :
    ∃ v' w',(Builtin.append_ #[t,t] ty #[v,.slice A n cap]).run P w=.ok v' w'∧Ow enc z e w' base v' (l++k)∧w.grownBy w' v.ownBlock ∧
      (v'.ownBlock=v.ownBlock∨v'.ownBlock=some w.heap.size):=by
  obtain ⟨i0,hi0,hz0,hz1,hz2⟩:=info_parts hi;have hkl:=hk.1;subst hkl;cases A with
  | none=>
    have h2:=hk.2.2.2.1 rfl;have h3:k.length=0:=by have:=hk.2.1;omega
    have hk0:k=[]:=List.eq_nil_of_length_eq_zero h3;subst hk0 h2;exact ⟨v,w,run_append_owned_none (P:=P) (w:=w) base t ty e i0 z ht hi0 v _ _ hown,by simpa using hown,World.grownBy.refl w _,.inl rfl⟩
  | some ad=>
    have hcells:∀ j u,(k.flatMap enc)[j]?=some u→w.cell? (ad.add j)=some u:=by
      intro j u hu;obtain ⟨x,hx,hu2⟩:=flat_inv enc z hz hp k j u hu;have hj:0<k.length:=Nat.lt_of_le_of_lt (Nat.zero_le _) (List.getElem?_eq_some_iff.1 hx).1;obtain ⟨b,off,e,hb,hc⟩:=hk.2.2.2.2 hj;injection e with e
      subst e;have e1:(Addr.add ⟨b,off,none⟩ j)=⟨b,off+j / z*z+j % z,none⟩:=by
        have e2:off+j / z*z+j % z=off+j:=by rw [Nat.add_assoc,Nat.mul_comm,Nat.div_add_mod]
        rw [e2];unfold Addr.add;by_cases h:j=0<;>simp [h]
      rw [e1];exact hc _ x hx _ u hu2
    obtain ⟨v',w',hrun,h2,h3,_,h5⟩:=run_append_own_at (P:=P) w base t ty e i0 zv z bytes ht hi0 hz0 hz1 hz2 hzs hp v l.length _ hown ad k.length cap _
      (flat_len enc z hz k) hcells (by intro u hu;obtain ⟨x,_,hx⟩:=List.mem_flatMap.1 hu;exact h1 x u hx) (by unfold maxLen;omega) (by
        have:(l.length+k.length)*bytes≤60000*10000:=Nat.mul_le_mul hlen hby;omega) hbase
    refine ⟨v',w',hrun,?_,h3,h5⟩;unfold Ow;rw [List.flatMap_append,List.length_append];exact h2
theorem wpList_append_row (hz:∀ x,(enc x).length=z) (hp:0<z) (h1:∀ x,∀ u∈enc x,u.oneCell'=true) {t e:TypeId} {zv:Value} {bytes:Nat} (ht:P.underlying t=some (.slice e)) (hi:(P.info? e).map (fun i=>(i.zero,i.size,i.bytes))=some (some zv,z,bytes))
    (hzs:zv.cells.size=z) (hby:bytes≤10000) (w:World) {ops:Array Oper} {rest:List Oper} {o:Oper} {a:Act} {Q:Exit→Act→World→Prop} (hgd:o.guard=none) (s x:Operand)
    (ho:o.op=.call {callee:=.builtin .append,args:=#[s,x],argTypes:=#[t,t]})
    (base:Nat) (v:Value) (l:List α) (hs:a.eval s=v) (hown:Ow enc z e w base v l) (B:Nat) (A:Option Addr) (n cap:Nat) (k:List α) (hx:a.eval x=.slice A n cap)
    (hk:Rd enc z w B A n cap k) (hlen:l.length+k.length≤60000) (hbase:base≤w.heap.size)
    (h:∀ v' w',Ow enc z e w' base v' (l++k)→w.grownBy w' v.ownBlock→(v'.ownBlock=v.ownBlock∨v'.ownBlock=some w.heap.size)→wpList P ops Q rest (a.put o.dst v') w') :
    wpList P ops Q (o::rest) a w:=by
  refine wpList_plain hgd fun K hK=>?_
  obtain ⟨v',w',hr,h2,h3,h4⟩:=append_row hz hp h1 ht hi hzs hby w base o.type v l hown B A n cap k hk hlen hbase;unfold Oper.wp execOp;simp only [ho,resolve,invoke,builtin,Sem.run_bind,Sem.run_pure,Result.andThen_ok,List.map_toArray,List.map_cons,List.map_nil,hs,hx,hr];exact hK _ _ (h v' w' h2 h3 h4)
theorem step_append_row (hz:∀ x,(enc x).length=z) (hp:0<z) (h1:∀ x,∀ u∈enc x,u.oneCell'=true) {t e:TypeId} {zv:Value} {bytes:Nat} (ht:P.underlying t=some (.slice e)) (hi:(P.info? e).map (fun i=>(i.zero,i.size,i.bytes))=some (some zv,z,bytes))
    (hzs:zv.cells.size=z) (hby:bytes≤10000) (w:World) {ops:Array Oper} {o:Oper} {a:Act} {K:Act→World→Prop} {Q:Exit→Act→World→Prop} {E:Prop} (hgd:o.guard=none) (s x:Operand)
    (ho:o.op=.call {callee:=.builtin .append,args:=#[s,x],argTypes:=#[t,t]})
    (base:Nat) (v:Value) (l:List α) (hs:a.eval s=v) (hown:Ow enc z e w base v l) (B:Nat) (A:Option Addr) (n cap:Nat) (k:List α) (hx:a.eval x=.slice A n cap)
    (hk:Rd enc z w B A n cap k) (hlen:l.length+k.length≤60000) (hbase:base≤w.heap.size)
    (h:∀ v' w',Ow enc z e w' base v' (l++k)→w.grownBy w' v.ownBlock→(v'.ownBlock=v.ownBlock∨v'.ownBlock=some w.heap.size)→K (a.put o.dst v') w') :
    if Region.wanted o (yielded ops a.tmps)=true then Oper.wp P o a w K Q else E:=by
  have hw:Region.wanted o (yielded ops a.tmps)=true:=by simp [Region.wanted,hgd]
  rw [if_pos hw];obtain ⟨v',w',hr,h2,h3,h4⟩:=append_row hz hp h1 ht hi hzs hby w base o.type v l hown B A n cap k hk hlen hbase;unfold Oper.wp execOp;simp only [ho,resolve,invoke,builtin,Sem.run_bind,Sem.run_pure,Result.andThen_ok,List.map_toArray,List.map_cons,List.map_nil,hs,hx,hr];exact h v' w' h2 h3 h4
theorem one_row (w:World) (e:TypeId) (x:α) (cs:Array Value) (hc:cs.toList=enc x):Rd enc z (w.alloc (.cells cs e)) (w.heap.size+1) (some ⟨w.heap.size,0,none⟩) 1 1 [x]:=
  ⟨rfl,Nat.le_refl _,by unfold maxLen;omega,(fun h=>by cases h),fun _=>⟨_,0,rfl,by omega,fun i y hy j u hu=>by
    have hi:i=0:=by
      rcases Nat.lt_or_ge i 1 with h|h
      · omega
      · rw [List.getElem?_eq_none (by simpa using h)] at hy;cases hy
    subst hi;have e1:x=y:=by simpa using hy
    subst e1;simp only [Nat.zero_mul,Nat.zero_add];rw [World.cell?_alloc_mark,←hu,←hc];simp⟩⟩
end
end rr
end Go.Proofs.YtdefgghhkknnpaaGreatDoor
