/- The landed checks of a statement's parts: how many there are of each. Conditions: what each line says. The library's strings.Builder in a writer that the call has made: WriteString, Len, String. Conditions: what each line says. The library's own contract of strconv.FormatInt at base 10, laid at this program. Its condition: the table of powers of ten lies as the library lays it. The landed writer's put: texts one behind the other. Conditions: the writer is one of the call's own; what it holds stays within 2^47 bytes. How many parts a program has. No condition. The landed writer's expressions. Conditions: the expression is one that a text could give; what the writer holds stays within 2^47 bytes. The landed writer's expressions, whole. Conditions: the expression is one that a text could give; what the writer holds stays within 2^47 bytes. The landed writer's labels of a block. Conditions: the labels are pairs of numbers of 64 bits; what the writer holds stays within 2^47 bytes. The landed checks of labels, places, statements and blocks. Conditions: the library's variable MaxLen holds some number; the rows have room for one more. The landed count of a statement's parts. No condition but what each line says. The landed checks of statements and blocks. Conditions: the library's variable MaxLen holds some number; a statement has at most 2^40 parts. The landed writer's blocks, over what the statements give. Conditions: the statements are such that a text could give; what the writer holds stays within 2^47 bytes. -/
import Derived.Test.YtdefgghhkknnpaaGreatDoorB04
import Derived.Lib.OthersKept
import Derived.Lib.UnsafeStr
import Derived.Lib.AppendStr
import Derived.Lib.Slices
import Derived.Laws.Externs
import Derived.Shelf.Strconv.Itoa4
import Derived.LaidMore
import Derived.Stop.Joined
import Derived.Lib.LaidTab
import Derived.Lib.ItoaMem
set_option linter.unusedVariables false
set_option linter.unusedSimpArgs false
set_option maxRecDepth 100000
set_option maxHeartbeats 40000000
namespace Go.Proofs.YtdefgghhkknnpaaGreatDoor
namespace sh
open ChangeShapes WideShapes ChangeAt RowKit k rr tk tr
theorem al1 (w:World) (o:Obj):Below w.heap.size w (w.alloc o):=(Below.refl _ _).alloc (Nat.le_refl _) o
theorem al2 (w:World) (o p:Obj):Below w.heap.size w ((w.alloc o).alloc p):=(al1 w o).trans ((al1 _ p).mono (by simp))
theorem al3 (w:World) (o p q:Obj):Below w.heap.size w (((w.alloc o).alloc p).alloc q):=(al2 w o p).trans ((al1 _ q).mono (by simp;omega))
def ptC (h:Pt):List Value:=[.int .i64 h.nm,.int .i64 h.dst,.int .i64 h.val,.int .i64 h.cs,.int .i64 h.ls,.int .i64 h.fs,.int .i64 h.bs]
theorem ptC_one (h:Pt):∀ u∈ptC h,u.oneCell'=true:=by
 intro u hu;simp only [ptC,List.mem_cons,List.not_mem_nil,or_false] at hu;rcases hu with rfl|rfl|rfl|rfl|rfl|rfl|rfl<;>rfl
theorem int_eq (d:Nat) (x y:Int) (w:World):(Op.equalIn (d+1) 3 (.int .i64 x) (.int .i64 y)).run Tryz.prog w=.ok (x==y) w:=run_equalIn_int w d _ _ _ x y Tryz.underlying3
theorem int_part (xs:Array Value) (o:Nat) (v:Value) (w:World) (h:xs[o]?=some v):(part 3 xs o).run Tryz.prog w=.ok v w:=run_part_plain w (by kernel_rfl) h
theorem pt_run (a0 a1 a2 a3 a4 a5 a6 b0 b1 b2 b3 b4 b5 b6:Int) (w:World):(binOp .eql 136 (.agg #[.int .i64 a0,.int .i64 a1,.int .i64 a2,.int .i64 a3,.int .i64 a4,.int .i64 a5,.int .i64 a6]) (.agg #[.int .i64 b0,.int .i64 b1,.int .i64 b2,.int .i64 b3,.int .i64 b4,.int .i64 b5,.int .i64 b6])).run Tryz.prog w=.ok (.bool (a0==b0&&(a1==b1&&(a2==b2&&(a3==b3&&(a4==b4&&(a5==b5&&a6==b6))))))) w:=by
 have hu:=run_underlying (w:=w) Tryz.underlying136;have hs:Tryz.prog.stoodInHeld 136=false:=by kernel_rfl
 have h:=int_eq 9998;simp only [binOp,Op.equal,Op.maxDepth];rw [show (10000:Nat)=9999+1 from rfl,Op.equalIn];simp [hu,hs,h,int_part,part]
 (repeat' split)<;>simp_all
theorem pt_dec (h a:Pt):((h.nm:Int)==a.nm&&((h.dst:Int)==a.dst&&((h.val:Int)==a.val&&((h.cs:Int)==a.cs&&((h.ls:Int)==a.ls&&((h.fs:Int)==a.fs&&(h.bs:Int)==a.bs))))))=decide (h=a):=by
 obtain ⟨a0,a1,a2,a3,a4,a5,a6⟩:=h;obtain ⟨b0,b1,b2,b3,b4,b5,b6⟩:=a;rw [Bool.eq_iff_iff];simp only [Bool.and_eq_true,beq_iff_eq,decide_eq_true_eq,Pt.mk.injEq];omega
theorem withElse_any (h a:Pt) (hb:a.bs<9223372036854775807) (w:World):Calls Tryz.prog 120 #[.agg (ptC h).toArray,.agg (ptC a).toArray] w fun e w'=>e=.returned (.bool (elseB h a))∧Below w.heap.size w w':=by
 have hw1:wrap64 ((a.bs:Int)+1)=((a.bs+1:Nat):Int):=by unfold wrap64;omega
 have E1:=pt_dec h a;have E2:=pt_dec h {a with bs:=a.bs+1};obtain ⟨a0,a1,a2,a3,a4,a5,a6⟩:=h;obtain ⟨b0,b1,b2,b3,b4,b5,b6⟩:=a;unfold elseB;simp only at hw1 E1 E2 ⊢;have PE:=pt_run;obtain ⟨v1,h1⟩:∃ v,decide ((⟨a0,a1,a2,a3,a4,a5,a6⟩:Pt)=⟨b0,b1,b2,b3,b4,b5,b6⟩)=v:=⟨_,rfl⟩;obtain ⟨v2,h2⟩:∃ v,decide ((⟨a0,a1,a2,a3,a4,a5,a6⟩:Pt)=⟨b0,b1,b2,b3,b4,b5,b6+1⟩)=v:=⟨_,rfl⟩;rw [h1] at E1 ⊢;rw [h2] at E2 ⊢;clear h1 h2 hb;simp only [ptC];generalize (a0:Int)=a0 at *;generalize (a1:Int)=a1 at *;generalize (a2:Int)=a2 at *;generalize (a3:Int)=a3 at *;generalize (a4:Int)=a4 at *;generalize (a5:Int)=a5 at *;generalize (a6:Int)=a6 at *;generalize (b0:Int)=b0 at *;generalize (b1:Int)=b1 at *;generalize (b2:Int)=b2 at *;generalize (b3:Int)=b3 at *;generalize (b4:Int)=b4 at *;generalize (b5:Int)=b5 at *;generalize ((b6+1:Nat):Int)=c6 at *;generalize (b6:Int)=b6 at *;go_enter Tryz.func120,Tryz.ntmps120
 have HB:=qh (al3 w (.cells #[.int .i64 a0,.int .i64 a1,.int .i64 a2,.int .i64 a3,.int .i64 a4,.int .i64 a5,.int .i64 a6] 136) (.cells #[.int .i64 b0,.int .i64 b1,.int .i64 b2,.int .i64 b3,.int .i64 b4,.int .i64 b5,.int .i64 b6] 136) (.cells #[.int .i64 b0,.int .i64 b1,.int .i64 b2,.int .i64 b3,.int .i64 b4,.int .i64 b5,.int .i64 c6] 136));cases v1<;>cases v2
 all_goals
  go_wp2;go_ret
  exact ⟨rfl,HB.out⟩
theorem rightParts_any (op:Int) (h:Pt) (h3:h.cs<9223372036854775807) (h4:h.ls<9223372036854775807) (w:World):Calls Tryz.prog 88 #[.int .i64 op,.agg (ptC h).toArray] w fun e w'=>e=.returned (.bool (stOk op h))∧Below w.heap.size w w':=by
 obtain ⟨a0,a1,a2,a3,a4,a5,a6⟩:=h;simp only at h3 h4;have PE:=pt_run;have W2:=qh (show ∀ W,Calls Tryz.prog 120 #[.agg #[.int .i64 a0,.int .i64 a1,.int .i64 a2,.int .i64 a3,.int .i64 a4,.int .i64 a5,.int .i64 a6],.agg #[.int .i64 0,.int .i64 0,.int .i64 0,.int .i64 a3,.int .i64 0,.int .i64 0,.int .i64 a3]] W fun e w'=>e=.returned (.bool (elseB ⟨a0,a1,a2,a3,a4,a5,a6⟩ ⟨0,0,0,a3,0,0,a3⟩))∧Below W.heap.size W w' from fun W=>withElse_any _ ⟨0,0,0,a3,0,0,a3⟩ h3 W);have W3:=qh (show ∀ W,Calls Tryz.prog 120 #[.agg #[.int .i64 a0,.int .i64 a1,.int .i64 a2,.int .i64 a3,.int .i64 a4,.int .i64 a5,.int .i64 a6],.agg #[.int .i64 0,.int .i64 0,.int .i64 1,.int .i64 0,.int .i64 a4,.int .i64 0,.int .i64 a4]] W fun e w'=>e=.returned (.bool (elseB ⟨a0,a1,a2,a3,a4,a5,a6⟩ ⟨0,0,1,0,a4,0,a4⟩))∧Below W.heap.size W w' from fun W=>withElse_any _ ⟨0,0,1,0,a4,0,a4⟩ h4 W);have HB:=qh (al1 w (.cells #[.int .i64 a0,.int .i64 a1,.int .i64 a2,.int .i64 a3,.int .i64 a4,.int .i64 a5,.int .i64 a6] 136));have hz:(w.alloc (.cells #[.int .i64 a0,.int .i64 a1,.int .i64 a2,.int .i64 a3,.int .i64 a4,.int .i64 a5,.int .i64 a6] 136)).heap.size=w.heap.size+1:=by simp
 have HZ:=qh hz;clear hz h3 h4;simp only [ptC];by_cases e1:op=1
 ·subst e1
  rw [stOk,if_pos rfl];have E:((a0:Int)==0&&((a1:Int)==1&&((a2:Int)==1&&((a3:Int)==0&&((a4:Int)==0&&((a5:Int)==0&&((a6:Int)==0)))))))=decide ((⟨a0,a1,a2,a3,a4,a5,a6⟩:Pt)=⟨0,1,1,0,0,0,0⟩):=pt_dec ⟨a0,a1,a2,a3,a4,a5,a6⟩ ⟨0,1,1,0,0,0,0⟩;have HE:=qh E;generalize decide ((⟨a0,a1,a2,a3,a4,a5,a6⟩:Pt)=⟨0,1,1,0,0,0,0⟩)=v at *;clear E;go_enter Tryz.func88,Tryz.ntmps88
  go_wp2;go_ret
  exact ⟨ret_bool HE.out,HB.out⟩
 by_cases e2:op=2
 ·subst e2
  rw [stOk,if_neg (by decide),if_pos rfl];generalize elseB ⟨a0,a1,a2,a3,a4,a5,a6⟩ ⟨0,0,0,a3,0,0,a3⟩=v at *;by_cases h0:0<a3
  ·rw [decide_eq_true h0]
   have h0':(0:Int)<a3:=by omega
   clear PE W3 h0;go_enter Tryz.func88,Tryz.ntmps88
   go_wp2_with (go_at_call 120;fail)
   refine (W2.out _).mono ?_;rintro e w2 ⟨rfl,hb⟩;have B2:=btr HB hb;clear hb W2;go_wp2_with fail
   go_ret
   exact ⟨rfl,B2.out⟩
  ·rw [decide_eq_false h0]
   have h0':¬ (0:Int)<a3:=by omega
   clear PE W3 W2 h0;go_enter Tryz.func88,Tryz.ntmps88
   go_wp2;go_ret
   exact ⟨rfl,HB.out⟩
 by_cases e3:op=3
 ·subst e3
  rw [stOk,if_neg (by decide),if_neg (by decide),if_pos rfl];generalize elseB ⟨a0,a1,a2,a3,a4,a5,a6⟩ ⟨0,0,1,0,a4,0,a4⟩=v at *;clear PE W2;go_enter Tryz.func88,Tryz.ntmps88
  go_wp2_with (go_at_call 120;fail)
  refine (W3.out _).mono ?_;rintro e w2 ⟨rfl,hb⟩;have B2:=btr HB hb;clear hb W3;go_wp2_with fail
  go_ret
  exact ⟨rfl,B2.out⟩
 clear W2 W3;by_cases e4:op=4
 ·subst e4
  rw [stOk,if_neg (by decide),if_neg (by decide),if_neg (by decide),if_pos rfl];have E:((a0:Int)==1&&((a1:Int)==0&&((a2:Int)==0&&((a3:Int)==3&&((a4:Int)==0&&((a5:Int)==0&&((a6:Int)==1)))))))=decide ((⟨a0,a1,a2,a3,a4,a5,a6⟩:Pt)=⟨1,0,0,3,0,0,1⟩):=pt_dec ⟨a0,a1,a2,a3,a4,a5,a6⟩ ⟨1,0,0,3,0,0,1⟩;have HE:=qh E;generalize decide ((⟨a0,a1,a2,a3,a4,a5,a6⟩:Pt)=⟨1,0,0,3,0,0,1⟩)=v at *;clear E;go_enter Tryz.func88,Tryz.ntmps88
  go_wp2;go_ret
  exact ⟨ret_bool HE.out,HB.out⟩
 by_cases e5:op=5
 ·subst e5
  rw [stOk,if_neg (by decide),if_neg (by decide),if_neg (by decide),if_neg (by decide),if_pos (by decide)];have E:((a0:Int)==0&&((a1:Int)==0&&((a2:Int)==1&&((a3:Int)==0&&((a4:Int)==0&&((a5:Int)==0&&((a6:Int)==1)))))))=decide ((⟨a0,a1,a2,a3,a4,a5,a6⟩:Pt)=⟨0,0,1,0,0,0,1⟩):=pt_dec ⟨a0,a1,a2,a3,a4,a5,a6⟩ ⟨0,0,1,0,0,0,1⟩;have HE:=qh E;generalize decide ((⟨a0,a1,a2,a3,a4,a5,a6⟩:Pt)=⟨0,0,1,0,0,0,1⟩)=v at *;clear E;go_enter Tryz.func88,Tryz.ntmps88
  go_wp2;go_ret
  exact ⟨ret_bool HE.out,HB.out⟩
 by_cases e6:op=6
 ·subst e6
  rw [stOk,if_neg (by decide),if_neg (by decide),if_neg (by decide),if_neg (by decide),if_pos (by decide)];have E:((a0:Int)==0&&((a1:Int)==0&&((a2:Int)==1&&((a3:Int)==0&&((a4:Int)==0&&((a5:Int)==0&&((a6:Int)==1)))))))=decide ((⟨a0,a1,a2,a3,a4,a5,a6⟩:Pt)=⟨0,0,1,0,0,0,1⟩):=pt_dec ⟨a0,a1,a2,a3,a4,a5,a6⟩ ⟨0,0,1,0,0,0,1⟩;have HE:=qh E;generalize decide ((⟨a0,a1,a2,a3,a4,a5,a6⟩:Pt)=⟨0,0,1,0,0,0,1⟩)=v at *;clear E;go_enter Tryz.func88,Tryz.ntmps88
  go_wp2;go_ret
  exact ⟨ret_bool HE.out,HB.out⟩
 by_cases e7:op=7
 ·subst e7
  rw [stOk,if_neg (by decide),if_neg (by decide),if_neg (by decide),if_neg (by decide),if_neg (by decide),if_pos (by decide)];have E:((a0:Int)==0&&((a1:Int)==0&&((a2:Int)==0&&((a3:Int)==0&&((a4:Int)==0&&((a5:Int)==0&&((a6:Int)==0)))))))=decide ((⟨a0,a1,a2,a3,a4,a5,a6⟩:Pt)=⟨0,0,0,0,0,0,0⟩):=pt_dec ⟨a0,a1,a2,a3,a4,a5,a6⟩ ⟨0,0,0,0,0,0,0⟩;have HE:=qh E;generalize decide ((⟨a0,a1,a2,a3,a4,a5,a6⟩:Pt)=⟨0,0,0,0,0,0,0⟩)=v at *;clear E;go_enter Tryz.func88,Tryz.ntmps88
  go_wp2;go_ret
  exact ⟨ret_bool HE.out,HB.out⟩
 by_cases e8:op=8
 ·subst e8
  rw [stOk,if_neg (by decide),if_neg (by decide),if_neg (by decide),if_neg (by decide),if_neg (by decide),if_pos (by decide)];have E:((a0:Int)==0&&((a1:Int)==0&&((a2:Int)==0&&((a3:Int)==0&&((a4:Int)==0&&((a5:Int)==0&&((a6:Int)==0)))))))=decide ((⟨a0,a1,a2,a3,a4,a5,a6⟩:Pt)=⟨0,0,0,0,0,0,0⟩):=pt_dec ⟨a0,a1,a2,a3,a4,a5,a6⟩ ⟨0,0,0,0,0,0,0⟩;have HE:=qh E;generalize decide ((⟨a0,a1,a2,a3,a4,a5,a6⟩:Pt)=⟨0,0,0,0,0,0,0⟩)=v at *;clear E;go_enter Tryz.func88,Tryz.ntmps88
  go_wp2;go_ret
  exact ⟨ret_bool HE.out,HB.out⟩
 by_cases e9:op=9
 ·subst e9
  rw [stOk,if_neg (by decide),if_neg (by decide),if_neg (by decide),if_neg (by decide),if_neg (by decide),if_neg (by decide),if_pos rfl];have E:((a0:Int)==1&&((a1:Int)==0&&((a2:Int)==0&&((a3:Int)==(a3:Int)&&((a4:Int)==0&&((a5:Int)==(a3:Int)&&((a6:Int)==0)))))))=decide ((⟨a0,a1,a2,a3,a4,a5,a6⟩:Pt)=⟨1,0,0,a3,0,a3,0⟩):=pt_dec ⟨a0,a1,a2,a3,a4,a5,a6⟩ ⟨1,0,0,a3,0,a3,0⟩;rw [beq_self_eq_true,Bool.true_and] at E;have HE:=qh E;generalize decide ((⟨a0,a1,a2,a3,a4,a5,a6⟩:Pt)=⟨1,0,0,a3,0,a3,0⟩)=v at *;clear E;go_enter Tryz.func88,Tryz.ntmps88
  go_wp2;go_ret
  exact ⟨ret_bool HE.out,HB.out⟩
 rw [stOk,if_neg e1,if_neg e2,if_neg e3,if_neg e4,if_neg (by omega),if_neg (by omega),if_neg e9];have z1:=neb e1;have z2:=neb e2;have z3:=neb e3;have z4:=neb e4;have z5:=neb e5;have z6:=neb e6;have z7:=neb e7;have z8:=neb e8;have z9:=neb e9;clear PE e1 e2 e3 e4 e5 e6 e7 e8 e9;go_enter Tryz.func88,Tryz.ntmps88
 go_wp2;go_ret
 exact ⟨rfl,HB.out⟩
def Wr (B g:Nat) (l:Str) (w:World):Prop:=Lib.IsBuilder 55 5 B g (Lib.byteCells l) w
def Fr (B g:Nat) (w w':World):Prop:=Below B w w'∧Lib.OthersKept 5 (some g) w w'∧w.heap.size≤w'.heap.size
theorem Fr.refl (B g:Nat) (w:World):Fr B g w w:=⟨Below.refl _ _,Lib.OthersKept.refl _ _ _,Nat.le_refl _⟩
theorem Fr.trans {B g:Nat} {a b c:World} (h:Fr B g a b) (k:Fr B g b c):Fr B g a c:=⟨h.1.trans k.1,h.2.1.trans k.2.1,Nat.le_trans h.2.2 k.2.2⟩
theorem Fr.alloc {B g:Nat} {a w:World} (h:Fr B g a w) (hB:B≤w.heap.size) (o:Obj):Fr B g a (w.alloc o):=⟨h.1.alloc hB o,h.2.1.alloc o,Nat.le_trans h.2.2 (by simp)⟩
theorem Fr.of {B g:Nat} {w w':World} (h:Below w.heap.size w w') (hB:B≤w.heap.size):Fr B g w w':=⟨h.mono hB,fun i o hi _ _=>by
 have hlt:i<w.heap.size:=(Array.getElem?_eq_some_iff.1 hi).1;rw [h.block i hlt];exact hi,h.size⟩
def Hb (w:World) (b:Nat) (T:TypeId) (vs:List Value):Prop:=w.heap[b]?=some (.cells vs.toArray T (0,0))
theorem Hb.box {w:World} {b:Nat} {T:TypeId} {vs:List Value} (h:Hb w b T vs):Box w b 0 vs:=Box.at fun i v hv=>by
 rw [Nat.zero_add];refine ⟨(Lib.cell_of_heap h i).trans (by simpa using hv),?_⟩;simp only [World.frozen?];unfold Hb at h;rw [h];simp
theorem Hb.fr {B g:Nat} {w w':World} {b:Nat} {T:TypeId} {vs:List Value} (h:Hb w b T vs) (hf:Fr B g w w') (hb:b≠g) (hT:T≠5):Hb w' b T vs:=
 hf.2.1 b _ h (fun e=>hb (Option.some.inj e)) (fun c fz e=>by injection e with _ e _;exact hT e)
theorem Hb.lt {w:World} {b:Nat} {T:TypeId} {vs:List Value} (h:Hb w b T vs):b<w.heap.size:=(Array.getElem?_eq_some_iff.1 h).1
theorem Hb.new (w:World) (vs:List Value) (T:TypeId):Hb (w.alloc (.cells vs.toArray T)) w.heap.size T vs:=heap_alloc_new w _
theorem Hb.below {w w':World} {B b:Nat} {T:TypeId} {vs:List Value} (h:Hb w b T vs) (hb:Below B w w') (hB:b<B):Hb w' b T vs:=by
 unfold Hb;rw [hb.block b hB];exact h
theorem Wr.lt {B g:Nat} {l:Str} {w:World} (h:Wr B g l w):g<w.heap.size:=by
 rcases h with h|h<;>exact h.lt
theorem Wr.le {B g:Nat} {l:Str} {w:World} (h:Wr B g l w):B≤g:=by
 rcases h with h|h<;>exact h.1
theorem ownsRow_below {w w':World} {B size n:Nat} {e:TypeId} {v:Value} {xs:List Value} (h:w.ownsRow B e size v n xs) (hb:Below w.heap.size w w'):w'.ownsRow B e size v n xs:=by
 refine ⟨h.1,?_⟩;rcases h.2 with h|⟨g,cap,cur,hv,hbg,hg,r⟩
 ·exact .inl h
 ·exact .inr ⟨g,cap,cur,hv,hbg,(hb.block g (Array.getElem?_eq_some_iff.1 hg).1).trans hg,r⟩
theorem at_below {T e:TypeId} {B g:Nat} {p:Value} {bs:List Value} {w w':World} (h:Lib.BuilderAt T e B g p bs w) (hb:Below w.heap.size w w'):Lib.BuilderAt T e B g p bs w':=by
 have hl:=h.lt;obtain ⟨h1,v,h2,h3,h4⟩:=h;refine ⟨h1,v,?_,?_,h4⟩
 ·rw [hb.block g hl]
  exact h2
 ·exact ownsRow_below h3 hb
theorem Wr.below {B g:Nat} {l:Str} {w w':World} (h:Wr B g l w) (hb:Below w.heap.size w w'):Wr B g l w':=by
 rcases h with h|h
 ·exact .inl (at_below h hb)
 ·exact .inr (at_below h hb)
theorem Wr.new (w:World):Wr w.heap.size w.heap.size [] (w.alloc (.cells #[.pointer none,.slice none 0 0] 55)):=Lib.fresh_isBuilder _ _ w
theorem size_bld:(Tryz.prog.info? 53).map (·.size)=some 2:=by kernel_rfl
theorem size_u8:(Tryz.prog.info? 5).map (fun i=>(i.zero,i.size,i.bytes))=some (some (.int .u8 0),1,1):=by kernel_rfl
theorem check_used (b:Nat) (w:World) (h0:w.cell? ⟨b,0,none⟩=some (.pointer (some ⟨b,0,none⟩))) :
  Calls Tryz.prog 96 #[.pointer (some ⟨b,0,none⟩)] w fun e w'=>e=.returned (.tuple #[])∧w'=w:=by
 obtain ⟨j,hj,_⟩:=Option.map_eq_some_iff.1 size_bld;go_enter Tryz.func96,Tryz.ntmps96
 go_wp2;rw [Lib.run_neq_ptr_same w _ Tryz.underlying50 hj];go_wp2;go_end0
 exact ⟨rfl,rfl⟩
theorem check_fresh (b:Nat) (w:World) (h0:w.cell? ⟨b,0,none⟩=some (.pointer none)) (hsh:w.shape? b=some (55,2)) (hfz:w.frozen? ⟨b,0,none⟩=false) :
  Calls Tryz.prog 96 #[.pointer (some ⟨b,0,none⟩)] w fun e w'=>e=.returned (.tuple #[])∧w'=w.setCell ⟨b,0,none⟩ (.pointer (some ⟨b,0,none⟩)):=by
 obtain ⟨j,hj,hjs⟩:=Option.map_eq_some_iff.1 size_bld;go_enter Tryz.func96,Tryz.ntmps96
 go_wp2;rw [Lib.run_to_unsafe w ⟨b,0,none⟩ Tryz.underlying50 Tryz.underlying166 hj (by rw [hjs];decide) hsh (Nat.zero_lt_succ 1)];simp only [Result.andThen];rw [Oper.upon_value];go_wp2;rw [run_callFunc_extern Tryz.func124 (by kernel_rfl) (by kernel_rfl) (by kernel_rfl) (e:=Extern.AbiNoEscape.same) (by kernel_rfl)];rw [Lib.run_noEscape];simp only [Result.andThen];rw [Oper.upon_value];go_wp2;rw [Lib.run_from_unsafe w ⟨b,0,none⟩ Tryz.underlying166 Tryz.underlying50 hj hsh (by kernel_rfl)];simp only [Result.andThen];rw [Oper.upon_value];go_wp2;go_end0
 exact ⟨rfl,rfl⟩
theorem check_any (B b:Nat) (bs:List Value) (w:World) (h:Lib.IsBuilder 55 5 B b bs w) :
  Calls Tryz.prog 96 #[.pointer (some ⟨b,0,none⟩)] w fun e w'=>e=.returned (.tuple #[])∧Lib.BuilderAt 55 5 B b (.pointer (some ⟨b,0,none⟩)) bs w'∧Fr B b w w':=by
 rcases h with h|h
 ·refine (check_fresh b w h.cell0 h.shape h.frozen0).mono ?_
  rintro e w' ⟨rfl,rfl⟩;exact ⟨rfl,h.used _,(Below.refl B w).setCell (p:=⟨b,0,none⟩) h.1 _,(Lib.OthersKept.refl _ _ _).setCell ⟨b,0,none⟩ rfl _,by simp⟩
 ·refine (check_used b w h.cell0).mono ?_
  rintro e w' ⟨rfl,rfl⟩;exact ⟨rfl,h,Fr.refl _ _ _⟩
theorem own_kind {w:World} {B:Nat} {e:TypeId} {v:Value} {n:Nat} {xs:List Value} (h:w.ownsRow B e 1 v n xs):∀ g,v.ownBlock=some g→∃ c fz,w.heap[g]?=some (.cells c e fz):=by
 intro g hg;rcases h.2 with ⟨rfl,_⟩|⟨g',cap,cur,rfl,_,hgg,_⟩
 ·simp [Value.ownBlock] at hg
 ·simp [Value.ownBlock] at hg
  subst hg;exact ⟨cur,(0,0),hgg⟩
theorem ws_any (B b:Nat) (l:Str) (s:ByteArray) (w:World) (h:Wr B b l w) (hlen:l.length+s.size≤140737488355328) (hBw:B≤w.heap.size) :
  Calls Tryz.prog 58 #[.pointer (some ⟨b,0,none⟩),.string s] w fun e w'=>e=.returned (.tuple #[.int .i64 s.size,.nilIface])∧Wr B b (l++s.data.toList) w'∧Fr B b w w':=by
 obtain ⟨i0,hi,hz0,hz1,hz2⟩:=info_parts size_u8;go_enter Tryz.func58,Tryz.ntmps58
 go_wp2_with (go_at_call 96;fail)
 refine (check_any B b (Lib.byteCells l) _ h).mono ?_;rintro e w1 ⟨rfl,h1,hf1⟩;obtain ⟨hB,v,hbk,hown,hne⟩:=h1;have c0:w1.cell? ⟨b,0,none⟩=some (.pointer (some ⟨b,0,none⟩)):=by rw [Lib.cell_of_heap hbk];rfl
 have c1:w1.cell? ⟨b,1,none⟩=some v:=by rw [Lib.cell_of_heap hbk];rfl
 have hbl:(Lib.byteCells l).length=l.length:=Lib.byteCells_length l;have hs1:=hf1.2.2;go_wp2_with (at_builtin;refine Lib.wpList_append_own_string _ rfl _ _ 51 9 rfl B 5 i0 Tryz.underlying51 Tryz.underlying9 hi hz0 hz1 hz2 _ _ _ rfl hown s rfl ?c3 ?c4 ?c5 ?_)
 case c3=>unfold maxLen;omega
 case c4=>omega
 case c5=>omega
 intro v' w2 hown' hgrow _;have hlt:b<w1.heap.size:=by
  rcases Nat.lt_or_ge b w1.heap.size with h'|h'
  ·exact h'
  ·simp [Array.getElem?_eq_none h'] at hbk
 have hb2:w2.heap[b]?=some (.cells #[.pointer (some ⟨b,0,none⟩),v] 55 (0,0)):=by
  rw [hgrow.block b hlt (fun e=>hne e.symm)];exact hbk
 have d0:w2.cell? ⟨b,0,none⟩=some (.pointer (some ⟨b,0,none⟩)):=by rw [Lib.cell_of_heap hb2];rfl
 have d1:w2.cell? ⟨b,1,none⟩=some v:=by rw [Lib.cell_of_heap hb2];rfl
 have f1:w2.frozen? ⟨b,1,none⟩=false:=Lib.frozen_of_heap hb2 1;obtain ⟨ao,n',cap,rfl⟩:∃ ao n' cap,v'=.slice ao n' cap:=by
  rcases hown'.2 with ⟨hv,_⟩|⟨g,cap,cur,hv,_⟩
  ·exact ⟨_,_,_,hv⟩
  ·exact ⟨_,_,_,hv⟩
 have FB:=qh ((hf1.1.grown hgrow (by omega) (fun k hk=>(hown.lt k hk).1)).setCell (p:=⟨b,1,none⟩) hB (.slice ao n' cap));have FK:=qh ((hf1.2.1.grown hgrow (own_kind hown)).setCell ⟨b,1,none⟩ rfl (.slice ao n' cap));have FS:=qh (show w.heap.size≤(w2.setCell ⟨b,1,none⟩ (.slice ao n' cap)).heap.size by have:=FB.out.size;have:=hgrow.size;simp;omega);go_wp2;go_ret2
 refine ⟨rfl,.inr ?_,FB.out,FK.out,FS.out⟩;have:=Lib.BuilderAt.put (T:=55) (e:=5) hB hb2 (bs':=Lib.byteCells l++Lib.strCells s) (by rw [List.length_append,Lib.strCells_length,Lib.byteCells_length];exact hown') (by decide);rw [show Lib.byteCells (l++s.data.toList)=Lib.byteCells l++Lib.strCells s by rw [Lib.strCells_eq];simp [Lib.byteCells]];exact this
theorem len_any (B b:Nat) (l:Str) (w:World) (h:Wr B b l w) :
  Calls Tryz.prog 16 #[.pointer (some ⟨b,0,none⟩)] w fun e w'=>e=.returned (.int .i64 l.length)∧w'=w:=by
 obtain ⟨p,hB,v,hbk,hown,hne⟩:∃ p,Lib.BuilderAt 55 5 B b p (Lib.byteCells l) w:=by
  rcases h with h|h
  ·exact ⟨_,h⟩
  ·exact ⟨_,h⟩
 rw [Lib.byteCells_length] at hown;obtain ⟨ao,cap,rfl⟩:∃ ao cap,v=.slice ao l.length cap:=by
  rcases hown.2 with ⟨hv,h0⟩|⟨g,cap,cur,hv,_⟩
  ·exact ⟨none,0,by rw [hv,h0]⟩
  ·exact ⟨_,_,hv⟩
 have c1:w.cell? ⟨b,1,none⟩=some (.slice ao l.length cap):=by rw [Lib.cell_of_heap hbk];rfl
 clear hB hbk hown hne;go_enter Tryz.func16,Tryz.ntmps16
 go_wp2;go_ret
 exact ⟨rfl,rfl⟩
theorem str_any (B b:Nat) (l:Str) (w:World) (h:Wr B b l w) (h0:l≠[]) :
  Calls Tryz.prog 17 #[.pointer (some ⟨b,0,none⟩)] w fun e w'=>e=.returned (.string ⟨l.toArray⟩)∧Below B w w':=by
 obtain ⟨p,hB,v,hbk,hown,hne⟩:∃ p,Lib.BuilderAt 55 5 B b p (Lib.byteCells l) w:=by
  rcases h with h|h
  ·exact ⟨_,h⟩
  ·exact ⟨_,h⟩
 have hl0:l.length≠0:=by simpa using h0
 rw [Lib.byteCells_length] at hown;obtain ⟨g,cap,cur,rfl,hbg,hg,hnc,hcm,hcs,htake⟩:∃ g cap cur,v=.slice (some ⟨g,0,none⟩) l.length cap∧B≤g∧w.heap[g]?=some (.cells cur 5 (0,0))∧l.length≤cap∧cap≤maxLen∧cur.size=cap*1∧cur.toList.take (l.length*1)=Lib.byteCells l:=by
  rcases hown.2 with ⟨_,hz⟩|⟨g,cap,cur,hv,r⟩
  ·exact absurd hz hl0
  ·exact ⟨g,cap,cur,hv,r⟩
 have c1:w.drew.cell? ⟨b,1,none⟩=some (.slice (some ⟨g,0,none⟩) l.length cap):=by
  have:w.drew.heap[b]?=some (.cells #[p,.slice (some ⟨g,0,none⟩) l.length cap] 55 (0,0)):=hbk;rw [Lib.cell_of_heap this];rfl
 have hSD:(Builtin.unsafeSliceData_ #[51] 86 #[.slice (some ⟨g,0,none⟩) l.length cap]).run Tryz.prog w.drew=.ok (.pointer (some ⟨g,0,none⟩)) w.drew:=
  Lib.run_unsafeSliceData_row _ _ _ _ _ _ (by omega)
 have hUS:(Builtin.unsafeString_ #[86,3] 9 #[.pointer (some ⟨g,0,none⟩),.int .i64 l.length]).run Tryz.prog w.drew=.ok (.string ⟨l.toArray⟩) (w.drew.freeze ⟨g,0,none⟩ l.length):=by
  refine Lib.run_unsafeString_row w.drew 86 3 9 5 Tryz.underlying86 (by kernel_rfl) g cur.size (by have hg':w.drew.heap[g]?=some (.cells cur 5 (0,0)):=hg;simp [World.shape?,hg']) l h0 (by omega) (by unfold maxLen at hcm;omega) ?_;intro j x hx;have:=hown.cells (g:=g) rfl j (.int .u8 x.toNat) (by simp [Lib.byteCells,hx]);exact this
 have FB:=qh (Lib.below_freeze (Below.drew (Below.refl B w)) (p:=⟨g,0,none⟩) hbg l.length);clear hB hbk hown hne hl0 h0 hbg hg hnc hcm hcs htake;go_enter Tryz.func17,Tryz.ntmps17
 go_wp2;go_region
 all_goals (go_wp2;go_ret;exact ⟨rfl,FB.out⟩)
end sh
section
open ChangeShapes WideShapes ChangeAt RowKit
def Laid (W : World) : Prop := Lib.TabIs Tryz.prog W "internal/strconv.uint64pow10" .u64 Lib.pow10Tab
theorem gPow : Tryz.prog.globalNamed "internal/strconv.uint64pow10" = some 0 := by kernel_rfl
theorem tPow:(Tryz.prog.globals[0]?).map (·.type)=some 193:=by kernel_rfl
theorem dPow:(Rows.laid_internal_strconv_uint64pow10:DataW Unit)=Lib.tabData .u64 Lib.pow10Tab:=by kernel_rfl
theorem Laid.below {w w':World} (h:Laid w) (hb:Below w.heap.size w w'):Laid w':=by
 unfold Laid Lib.TabIs World.var? at *;rw [gPow] at h ⊢;simp only [Option.bind_some] at h ⊢;have hlt:0<w.heap.size:=by
  rcases Nat.lt_or_ge 0 w.heap.size with h'|h'
  ·exact h'
  ·rw [Array.getElem?_eq_none h'] at h;simp at h
 rw [hb.block _ hlt];exact h
end
namespace sh
open Shelf RowKit Lib
def renD:Go.Shelf.Ren:=⟨fun|129=>165|173=>97|246=>125|283=>148|284=>149|285=>150|286=>151|317=>164|318=>166|319=>167|320=>168|337=>180|338=>181|n=>n,fun|0=>0|2=>2|3=>3|4=>4|5=>5|9=>9|20=>20|37=>51|46=>197|51=>194|53=>88|171=>180|173=>183|212=>193|213=>195|232=>211|233=>212|n=>n,fun|17=>0|18=>2|19=>3|n=>n⟩
theorem laysD0:Go.Proofs.Lays.n173 Tryz.prog renD:={
 mixed:=by kernel_rfl
 f129:=Tryz.func165.trans (congrArg some (by kernel_rfl))
 f173:=Tryz.func97.trans (congrArg some (by kernel_rfl))
 f246:=Tryz.func125.trans (congrArg some (by kernel_rfl))
 f283:=Tryz.func148.trans (congrArg some (by kernel_rfl))
 f284:=Tryz.func149.trans (congrArg some (by kernel_rfl))
 f285:=Tryz.func150.trans (congrArg some (by kernel_rfl))
 f286:=Tryz.func151.trans (congrArg some (by kernel_rfl))
 f317:=Tryz.func164.trans (congrArg some (by kernel_rfl))
 f318:=Tryz.func166.trans (congrArg some (by kernel_rfl))
 f319:=Tryz.func167.trans (congrArg some (by kernel_rfl))
 f320:=Tryz.func168.trans (congrArg some (by kernel_rfl))
 f337:=Tryz.func180.trans (congrArg some (by kernel_rfl))
 f338:=Tryz.func181.trans (congrArg some (by kernel_rfl))
 t0:=Tryz.underlying0
 a0:=Tryz.isAgg0
 z0:=Tryz.sizeOf0
 v0:=Tryz.zeroValue0
 t2:=Tryz.underlying2
 a2:=Tryz.isAgg2
 z2:=Tryz.sizeOf2
 v2:=Tryz.zeroValue2
 t3:=Tryz.underlying3
 a3:=Tryz.isAgg3
 z3:=Tryz.sizeOf3
 v3:=Tryz.zeroValue3
 t4:=Tryz.underlying4
 a4:=Tryz.isAgg4
 z4:=Tryz.sizeOf4
 v4:=Tryz.zeroValue4
 t5:=Tryz.underlying5
 a5:=Tryz.isAgg5
 z5:=Tryz.sizeOf5
 v5:=Tryz.zeroValue5
 t9:=Tryz.underlying9
 a9:=Tryz.isAgg9
 z9:=Tryz.sizeOf9
 v9:=Tryz.zeroValue9
 t20:=Tryz.underlying20
 a20:=Tryz.isAgg20
 z20:=Tryz.sizeOf20
 v20:=Tryz.zeroValue20
 t37:=Tryz.underlying51
 a37:=Tryz.isAgg51
 z37:=Tryz.sizeOf51
 v37:=Tryz.zeroValue51
 t46:=Tryz.underlying197
 a46:=Tryz.isAgg197
 z46:=Tryz.sizeOf197
 v46:=Tryz.zeroValue197
 t51:=Tryz.underlying194
 a51:=Tryz.isAgg194
 z51:=Tryz.sizeOf194
 v51:=Tryz.zeroValue194
 t53:=Tryz.underlying88
 a53:=Tryz.isAgg88
 z53:=Tryz.sizeOf88
 v53:=Tryz.zeroValue88
 t171:=Tryz.underlying180
 a171:=Tryz.isAgg180
 z171:=Tryz.sizeOf180
 v171:=Tryz.zeroValue180
 t173:=Tryz.underlying183
 a173:=Tryz.isAgg183
 z173:=Tryz.sizeOf183
 v173:=Tryz.zeroValue183
 t212:=Tryz.underlying193
 a212:=Tryz.isAgg193
 z212:=Tryz.sizeOf193
 v212:=Tryz.zeroValue193
 t213:=Tryz.underlying195
 a213:=Tryz.isAgg195
 z213:=Tryz.sizeOf195
 t232:=Tryz.underlying211
 a232:=Tryz.isAgg211
 z232:=Tryz.sizeOf211
 v232:=Tryz.zeroValue211
 t233:=Tryz.underlying212
 a233:=Tryz.isAgg212
 z233:=Tryz.sizeOf212
 v233:=Tryz.zeroValue212
 g17:=by kernel_rfl
 g18:=by kernel_rfl
 g19:=by kernel_rfl}
theorem laysD:Go.Proofs.LaysM.n173 Tryz.prog renD:={laysD0 with
 i0:=by kernel_rfl
 i2:=by kernel_rfl
 i3:=by kernel_rfl
 i4:=by kernel_rfl
 i5:=by kernel_rfl
 i9:=by kernel_rfl
 i20:=by kernel_rfl
 i37:=by kernel_rfl
 i46:=by kernel_rfl
 i51:=by kernel_rfl
 i53:=by kernel_rfl
 i171:=by kernel_rfl
 i173:=by kernel_rfl
 i212:=by kernel_rfl
 i232:=by kernel_rfl
 i233:=by kernel_rfl
 m17:=by kernel_rfl
 m18:=by kernel_rfl
 m19:=by kernel_rfl}
end sh
namespace sh
open ChangeShapes WideShapes ChangeAt RowKit k rr tk tr
theorem below_grow {w:World} {os:Array Obj} (k:Nat):Below w.heap.size w (Go.Sort.grow (w.drewN k) os):=by
 refine (below_drawn (Below.refl _ _) k).trans ⟨rfl,rfl,rfl,?_,fun i hi=>?_⟩
 ·simp [Go.Sort.grow]
 ·simp only [Go.Sort.grow]
  rw [Array.getElem?_append_left];simpa using hi
def InI (n:Int):Prop:=-9223372036854775808≤n∧n≤9223372036854775807
theorem format_any (n:Int) (hn:InI n) (w:World) (hL:Laid w):Calls Tryz.prog 97 #[.int .i64 n,.int .i64 10] w fun e w'=>e=.returned (sv (numS n))∧Below w.heap.size w w':=by
 refine (Go.Proofs.Any.strconv_FormatInt_10 laysD n hn.1 hn.2 w hL).mono ?_;rintro e w' ⟨rfl,k,os,rfl⟩;exact ⟨rfl,below_grow k⟩
theorem decimal_any (n:Int) (hn:InI n) (w:World) (hL:Laid w):Calls Tryz.prog 60 #[.int .i64 n] w fun e w'=>e=.returned (sv (numS n))∧Below w.heap.size w w':=by
 have FA:=Lib.hid (format_any n hn w hL);clear hn hL;go_enter Tryz.func60,Tryz.ntmps60
 go_wp2_with (go_at_call 97;fail)
 refine FA.out.mono ?_;rintro e w1 ⟨rfl,hb⟩;have B1:=Lib.hid hb;clear hb FA;unfold sv;go_wp2_with fail
 go_ret
 exact ⟨rfl,B1.out⟩
theorem truth_any (n:Int) (w:World):Calls Tryz.prog 61 #[.int .i64 n] w fun e w'=>e=.returned (sv (truthS n))∧w'=w:=by
 by_cases e0:n=0
 ·subst e0
  go_enter Tryz.func61,Tryz.ntmps61
  go_wp2;go_ret
  exact ⟨rfl,rfl⟩
 rw [truthS,if_neg e0];have z0:=neb e0;clear e0;go_enter Tryz.func61,Tryz.ntmps61
 go_wp2;go_ret
 exact ⟨rfl,rfl⟩
abbrev lim:Nat:=140737488355328
def Wrote (B g:Nat) (l t:Str) (w:World) (e:Ending) (w':World):Prop:=e=.returned (.tuple #[])∧Wr B g (l++t) w'∧Fr B g w w'
theorem flat_take {L:List Str} {q:Nat} {x:Str} (h:L[q]?=some x):(L.take (q+1)).flatten=(L.take q).flatten++x:=by
 rw [List.take_add_one,h,List.flatten_append];simp
theorem flat_le {L:List Str} {q:Nat} {x:Str} (h:L[q]?=some x):(L.take q).flatten.length+x.length≤L.flatten.length:=by
 have h1:(L.take (q+1)).flatten.length≤L.flatten.length:=by
  conv=>rhs;rw [←List.take_append_drop (q+1) L,List.flatten_append,List.length_append]
  omega
 rw [flat_take h,List.length_append] at h1;exact h1
theorem put_any {B g k:Nat} {l:Str} {L:List Str} {w:World} (hW:Wr B g l w) (hB:B≤w.heap.size) (hR:Hb w k 9 (L.map sv)) (hk:k≠g) (hm:L.length≤9) (hlen:l.length+L.flatten.length≤lim) :
  Calls Tryz.prog 35 #[.pointer (some ⟨g,0,none⟩),.slice (some ⟨k,0,none⟩) L.length L.length] w (Wrote B g l L.flatten w):=by
 obtain ⟨n,hn⟩:∃ n,L.length=n:=⟨_,rfl⟩;rw [hn];have HW:=qh hW;have HB:=qh hB;have HR:=qh hR;have HK:=qh hk;have HL:=qh hlen;have HN:=qh (And.intro hn hm);clear hW hB hR hk hlen hn hm;go_enter Tryz.func35,Tryz.ntmps35
 go_upto_region 1 with (fail)
 go_loopw [8] (fun s8 wr=>∃ q:Nat,q≤n∧s8=.int .i64 q∧Wr B g (l++(L.take q).flatten) wr∧Fr B g w wr) (fun i _=>n-(intOf i).toNat)
 case atStart=>exact ⟨0,Nat.zero_le _,rfl,by rw [List.take_zero];simpa using HW.out,Fr.refl _ _ _⟩
 case round=>
  obtain ⟨q,hq,rfl,hwr,hfr⟩:=hrel;have hn9:n≤9:=by have:=HN.out;omega
  by_cases hlt:q<n
  ·obtain ⟨x,hx⟩:∃ x,L[q]?=some x:=⟨_,List.getElem?_eq_getElem (by rw [HN.out.1];exact hlt)⟩
   have a0:=(cell_of (HR.out.fr hfr HK.out (by decide)).box (i:=q) (v:=sv x) (by rw [List.getElem?_map,hx];rfl)).1;have w1:=nat_step q (by omega);have WS:=qh (ws_any B g (l++(L.take q).flatten) ⟨x.toArray⟩ wr hwr (by
    have h1:=flat_le hx;have h2:=HL.out;rw [List.length_append]
    show _+x.length≤_
    unfold lim at h2;omega) (Nat.le_trans HB.out hfr.2.2))
   rw [sv_list,List.append_assoc,←flat_take hx] at WS;have HF:=qh hfr;unfold sv at a0;clear hwr hfr hx;generalize (⟨x.toArray⟩:ByteArray)=xs at *;go_wp2_with (go_at_call 58;fail)
   refine WS.out.mono ?_;rintro e w5 ⟨rfl,hwr,hfr⟩;have W5:=qh hwr;have F5:=qh (HF.out.trans hfr);clear hwr hfr a0 WS HF;go_wp2_with fail
   go_roundw
   case rel=>exact ⟨q+1,by omega,by go_num,W5.out,F5.out⟩
   case measure=>simp [intOf];omega
  ·obtain rfl:q=n:=by omega
   have hz:¬ (q:Int)<q:=by omega
   have W5:=qh hwr;have F5:=qh hfr;clear hwr hfr;go_wp2_with fail
   go_end0
   refine ⟨rfl,?_,F5.out⟩;have:=W5.out;rw [←HN.out.1,List.take_length] at this;exact this
end sh
namespace sh
open ChangeShapes WideShapes ChangeAt RowKit k rr tk tr
mutual
def wE:Ex→Nat
 | .mk _ _ _ _ sub _=>wsE sub+1
def wsE:List Ex→Nat
 | []=>0
 | x::l=>wE x+wsE l
end
def wL:List (List Int)→Nat
 | []=>0
 | x::l=>x.length+1+wL l
mutual
def wS:St→Nat
 | .mk _ _ dst val conds labels fields blocks _=>1+(wE dst+wE val)+wsE conds+wL labels+fields.length+wsB blocks
def wsS:List St→Nat
 | []=>0
 | x::l=>wS x+wsS l
def wsB:List (List St)→Nat
 | []=>0
 | x::l=>wsS x+1+wsB l
end
theorem wE_pos:∀ x,1≤wE x
 | .mk _ _ _ _ _ _=>by rw [wE];omega
theorem wsE_len:∀ L:List Ex,L.length≤wsE L
 | []=>Nat.le_refl _
 | x::l=>by
  have:=wsE_len l;have:=wE_pos x;rw [wsE,List.length_cons];omega
theorem wL_len:∀ L:List (List Int),L.length≤wL L
 | []=>Nat.le_refl _
 | x::l=>by
  have:=wL_len l;rw [wL,List.length_cons];omega
theorem wsS_mem {x:St}:∀ {L:List St},x∈L→wS x≤wsS L
 | _,.head l=>by rw [wsS];omega
 | _,.tail y h=>by have:=wsS_mem h;rw [wsS];omega
theorem wsB_mem {x:List St}:∀ {L:List (List St)},x∈L→wsS x≤wsB L
 | _,.head l=>by rw [wsB];omega
 | _,.tail y h=>by have:=wsB_mem h;rw [wsB];omega
end sh
namespace sh
open ChangeShapes WideShapes ChangeAt RowKit k rr tk tr
theorem still_named {id:Nat} {Q:Exit→Act→World→Prop} {a:Act} {w:World} {l:List Oper} (n:Nat) (hB:Region.lexTailB .any l.toArray n=true)
  (h:∀ w2:World,(∀ p,w2.cell? p=w.cell? p)→(∀ p,w2.frozen? p=w.frozen? p)→(∀ B,Below B w w2)→w2.heap=w.heap→wpStill Tryz.prog l.toArray w2 (fun a'=>wpList Tryz.prog l.toArray Q (l.drop n) a' w2) (l.take n) a):(Code.region id l.toArray true).wp Tryz.prog Q a w:=
 wp_region_still_tail n (by kernel_rfl) hB (h _ (fun _=>rfl) (fun _=>rfl) (fun _=>(Below.refl _ _).drew) rfl)
structure Wx (B g:Nat) (l:Str) (w:World):Prop where
 wr:Wr B g l w
 le:B≤w.heap.size
 laid:Laid w
 gl:0<B
theorem laid_of {w w':World} {B:Nat} (h:Laid w) (hb:Below B w w') (hB:0<B):Laid w':=by
 unfold Laid Lib.TabIs World.var? at *;rw [gPow] at h ⊢;simp only [Option.bind_some] at h ⊢;rw [hb.block _ hB];exact h
theorem Wx.step {B g:Nat} {l l':Str} {w w':World} (h:Wx B g l w) (hw:Wr B g l' w') (hf:Fr B g w w'):Wx B g l' w':=⟨hw,Nat.le_trans h.le hf.2.2,laid_of h.laid hf.1 h.gl,h.gl⟩
theorem Wx.below {B g:Nat} {l:Str} {w w':World} (h:Wx B g l w) (hb:Below w.heap.size w w'):Wx B g l w':=⟨h.wr.below hb,Nat.le_trans h.le hb.size,laid_of h.laid (hb.mono h.le) h.gl,h.gl⟩
theorem Wx.drew {B g:Nat} {l:Str} {w w':World} (h:Wx B g l w) (hb:∀ B,Below B w w'):Wx B g l w':=h.below (hb _)
def Put (B g:Nat) (l t:Str) (w:World) (e:Ending) (w':World):Prop:=e=.returned (.tuple #[])∧Wx B g (l++t) w'∧Fr B g w w'
theorem put_new {B g:Nat} {l:Str} (L:List Str) {t:Str} (ht:L.flatten=t) {w:World} (h:Wx B g l w) (hm:L.length≤9) (hlen:l.length+t.length≤lim) :
  Calls Tryz.prog 35 #[.pointer (some ⟨g,0,none⟩),.slice (some ⟨w.heap.size,0,none⟩) L.length L.length] (w.alloc (.cells (L.map sv).toArray 9)) (Put B g l t w):=by
 subst ht;have hb:=al1 w (.cells (L.map sv).toArray 9);have h1:=h.below hb;refine (put_any h1.wr h1.le (Hb.new w (L.map sv) 9) (by have:=h.wr.lt;omega) hm hlen).mono ?_;rintro e w' ⟨rfl,hw,hf⟩;have hf1:Fr B g w w':=(Fr.of hb h.le).trans hf;exact ⟨rfl,h.step hw hf1,hf1⟩
theorem Put.more {B g:Nat} {l t t':Str} {w w1:World} {e:Ending} {w':World} (hf:Fr B g w w1) (h:Put B g (l++t) t' w1 e w'):Put B g l (t++t') w e w':=by
 obtain ⟨a,b,c⟩:=h;rw [List.append_assoc] at b;exact ⟨a,b,hf.trans c⟩
theorem Wx.box {B g:Nat} {l:Str} {w:World} (h:Wx B g l w) (vs:List Value) (T:TypeId):∃ w1,w.alloc (.cells vs.toArray T)=w1∧Wx B g l w1∧Hb w1 w.heap.size T vs∧Fr B g w w1∧w.heap.size≠g:=
 ⟨_,rfl,h.below (al1 _ _),Hb.new w vs T,Fr.of (al1 _ _) h.le,by have:=h.wr.lt;omega⟩
def WrE (N:Nat):Prop:=∀ x:Ex,SizeOf.sizeOf x<N→∀ (h:EH) (B g:Nat) (l:Str) (w:World),Wx B g l w→ExAt w B x h→exB x=true→l.length+(exS x).length≤lim →
 Calls Tryz.prog 99 #[.pointer (some ⟨g,0,none⟩),.agg (eC h).toArray] w (Put B g l (exS x) w)
def ArE (N:Nat):Prop:=∀ x:Ex,SizeOf.sizeOf x<N→∀ (h:EH) (B g:Nat) (l a b:Str) (w:World),Wx B g l w→ExAt w B x h→exB x=true→l.length+(a++exS x++b).length≤lim →
 Calls Tryz.prog 100 #[.pointer (some ⟨g,0,none⟩),sv a,.agg (eC h).toArray,sv b] w (Put B g l (a++exS x++b) w)
theorem around_step {N:Nat} (IH:WrE N):ArE N:=by
 intro x hN h B g l a b w hK hx hxb hlen;rw [List.length_append,List.length_append] at hlen;obtain ⟨w1,e1,K1,H1,F1,ng⟩:=hK.box (eC h) 44;have P1:=qh (put_new [a] (t:=a) (by simp) K1 (by simp) (by omega));have XX:=qh fun W (hf:Fr B g w W) (hW:Wx B g (l++a) W)=>IH x hN h B g (l++a) W hW (hx.below hf.1 (Nat.le_refl _)) hxb (by rw [List.length_append];omega)
 have P3:=qh fun W (hW:Wx B g (l++a++exS x) W)=>put_new [b] (t:=b) (by simp) hW (by simp) (by rw [List.length_append,List.length_append];omega)
 have F1:=qh F1;have H1:=qh H1;have NG:=qh ng;clear hK K1 hlen IH hx hxb hN ng;go_enter Tryz.func100,Tryz.ntmps100
 go_upto_region 1 with (fail)
 unfold sv;subst e1;generalize w.alloc (.cells (eC h).toArray 44)=w1 at *;go_wp2_with (go_at_call 35;fail)
 refine P1.out.mono ?_;rintro e w2 ⟨rfl,k2,f2⟩;have K2:=qh k2;have F2:=qh (F1.out.trans f2);have H2:=qh (H1.out.fr f2 NG.out (by decide));clear k2 f2 P1 F1 H1;go_wp2_with (first|((with_reducible refine m_load H2.out.box 44 6 ?_ ?_ ?_ ?_ ?_ ?_);rfl;rfl;rfl;rfl;kernel_rfl)|(go_at_call 99;fail))
 refine (XX.out _ F2.out K2.out).mono ?_;rintro e w3 ⟨rfl,k3,f3⟩;have K3:=qh k3;have F3:=qh (F2.out.trans f3);clear k3 f3 XX K2 F2 H2;go_wp2_with (go_at_call 35;fail)
 refine (P3.out _ K3.out).mono ?_;rintro e w4 ⟨rfl,k4,f4⟩;have K4:=qh k4;have F4:=qh (F3.out.trans f4);clear k4 f4 P3 K3 F3;go_wp2_with fail
 go_end0
 exact ⟨rfl,by have:=K4.out;simpa only [List.append_assoc] using this,F4.out⟩
theorem exS_1 (n:Int) (s f:Str) (sub:List Ex) (ln:Int):exS (.mk 1 n s f sub ln)=numS n:=by rw [exS,exT,if_pos rfl]
theorem exS_2 (n:Int) (s f:Str) (sub:List Ex) (ln:Int):exS (.mk 2 n s f sub ln)=truthS n:=by rw [exS,exT,if_neg (by decide),if_pos rfl]
theorem exS_3 (n:Int) (s f:Str) (sub:List Ex) (ln:Int):exS (.mk 3 n s f sub ln)=s:=by rw [exS,exT,if_neg (by decide),if_neg (by decide),if_pos rfl]
theorem exS_4 (n:Int) (s f:Str) (y:Ex) (ln:Int):exS (.mk 4 n s f [y] ln)=s++[91]++exS y++[93]:=by
 rw [exS,exsS,exsS,exT,if_neg (by decide),if_neg (by decide),if_neg (by decide),if_pos rfl];rfl
theorem exS_5 (n:Int) (s f:Str) (sub:List Ex) (ln:Int):exS (.mk 5 n s f sub ln)=s++[46]++f:=by
 rw [exS,exT,if_neg (by decide),if_neg (by decide),if_neg (by decide),if_neg (by decide),if_pos rfl]
theorem exS_6 (n:Int) (s f:Str) (y:Ex) (ln:Int):exS (.mk 6 n s f [y] ln)=[40,45]++exS y++[41]:=by
 rw [exS,exsS,exsS,exT,if_neg (by decide),if_neg (by decide),if_neg (by decide),if_neg (by decide),if_neg (by decide),if_pos rfl];rfl
theorem exS_7 (n:Int) (s f:Str) (y:Ex) (ln:Int):exS (.mk 7 n s f [y] ln)=[40,78,79,84,32]++exS y++[41]:=by
 rw [exS,exsS,exsS,exT,if_neg (by decide),if_neg (by decide),if_neg (by decide),if_neg (by decide),if_neg (by decide),if_neg (by decide),if_pos rfl];rfl
theorem exS_8 {op:Int} (h:8≤op) (n:Int) (s f:Str) (y z:Ex) (ln:Int):exS (.mk op n s f [y,z] ln)=[40]++exS y++([32]++opS op++[32])++exS z++[41]:=by
 rw [exS,exsS,exsS,exsS,exT,if_neg (by omega),if_neg (by omega),if_neg (by omega),if_neg (by omega),if_neg (by omega),if_neg (by omega),if_neg (by omega)];rfl
theorem nm_len {s:Str} (h:nmB s=true):s.length≤16:=(nm_sgn h).2.2.2
theorem cat_sv (a b:Str):(⟨a.toArray⟩:ByteArray)++⟨b.toArray⟩=⟨(a++b).toArray⟩:=by
 apply ByteArray.ext
 apply Array.toList_inj.1
 simp
theorem sz_sv (a:Str):(⟨a.toArray⟩:ByteArray).size=a.length:=rfl
theorem sub_one {w:World} {B:Nat} {s:Sl} {sub:List Ex} (h:ExL w B s sub) (hl:sub.length=1):∃ y h0 b o,sub=[y]∧ExAt w B y h0∧s.A=some ⟨b,o,none⟩∧b<B∧w.rangeAt b o (eC h0)∧s.l=1:=by
 obtain ⟨H,h1,h2⟩:=h
 match sub,hl with
 | [y],_=>
  have hls:s.l=1:=by have:=h2.len;rw [←h1.1,this];rfl
  obtain ⟨b,o,h0,hA,hb,hp,hc⟩:=Rd.at h1 (i:=0) (by omega);obtain ⟨y',hy,hy2⟩:=h2.at hp;obtain rfl:y=y':=by simpa using hy
  rw [Nat.zero_mul,Nat.add_zero] at hc;exact ⟨y,h0,b,o,rfl,hy2,hA,hb,hc,hls⟩
theorem sub_two {w:World} {B:Nat} {s:Sl} {sub:List Ex} (h:ExL w B s sub) (hl:sub.length=2):∃ y z h0 h1 b o,sub=[y,z]∧ExAt w B y h0∧ExAt w B z h1∧s.A=some ⟨b,o,none⟩∧b<B∧w.rangeAt b o (eC h0)∧w.rangeAt b (o+6) (eC h1)∧s.l=2:=by
 obtain ⟨H,h1,h2⟩:=h
 match sub,hl with
 | [y,z],_=>
  have hls:s.l=2:=by have:=h2.len;rw [←h1.1,this];rfl
  obtain ⟨b,o,h0,hA,hb,hp,hc⟩:=Rd.at h1 (i:=0) (by omega);obtain ⟨y',hy,hy2⟩:=h2.at hp;obtain rfl:y=y':=by simpa using hy
  obtain ⟨b',o',k0,hA',hb',hp',hc'⟩:=Rd.at h1 (i:=1) (by omega);obtain ⟨z',hz,hz2⟩:=h2.at hp';obtain rfl:z=z':=by simpa using hz
  rw [hA] at hA';injection hA' with hA'
  injection hA' with e1 e2 _
  subst e1 e2;rw [Nat.zero_mul,Nat.add_zero] at hc;rw [Nat.one_mul] at hc';exact ⟨y,z,h0,k0,b,o,rfl,hy2,hz2,hA,hb,hc,hc',hls⟩
theorem range_cells {w:World} {b o:Nat} {h:EH} (hc:w.rangeAt b o (eC h)):w.cell? ⟨b,o,none⟩=some (.int .i64 h.op)∧w.cell? ⟨b,o+1,none⟩=some (.int .i64 h.n)∧w.cell? ⟨b,o+2,none⟩=some (sv h.name)∧w.cell? ⟨b,o+3,none⟩=some (sv h.field)∧w.cell? ⟨b,o+4,none⟩=some h.sub.v∧w.cell? ⟨b,o+5,none⟩=some (.int .i64 h.line):=
 ⟨hc 0 _ rfl,hc 1 _ rfl,hc 2 _ rfl,hc 3 _ rfl,hc 4 _ rfl,hc 5 _ rfl⟩
theorem expr_step {N:Nat} (IH:ArE N):WrE (N+1):=by
 unfold WrE;intro x hN h B g l w hK hx hxb hlen;obtain ⟨xo,xn,xs,xf,xsub,xl⟩:=x;obtain ⟨o,n,s,f,⟨A,sl,c⟩,ln⟩:=h;unfold ExAt at hx;obtain ⟨rfl,rfl,rfl,rfl,rfl,H,hR,hE⟩:=hx;have hx:ExL w B ⟨A,sl,c⟩ xsub:=⟨H,hR,hE⟩;have hxb:exB (.mk o n s f xsub ln)=true:=hxb;have hlen:l.length+(exS (.mk o n s f xsub ln)).length≤lim:=hlen
 show Calls _ _ _ _ (Put B g l (exS (.mk o n s f xsub ln)) w)
 rw [exB,Bool.and_eq_true] at hxb;obtain ⟨hok,hsb⟩:=hxb;unfold exOk at hok;simp only [Bool.and_eq_true,decide_eq_true_eq,beq_iff_eq] at hok;obtain ⟨⟨o1,o2⟩,n0,n1,hnm,hfd,hsl⟩:=hok;have hsz:SizeOf.sizeOf xsub≤N:=by
  simp only [Ex.mk.sizeOf_spec] at hN;omega
 obtain ⟨w1,e1,K1,H1,F1,ng⟩:=hK.box (eC ⟨o,n,s,f,⟨A,sl,c⟩,ln⟩) 44;have NG:=qh ng;have K1:=qh K1;have H1:=qh H1;have F1:=qh F1;clear hK ng hR hE hN;simp only [eC,sv,Sl.v] at e1 ⊢;rcases (show o=1∨o=2∨o=3∨o=4∨o=5∨o=6∨o=7∨8≤o by omega) with rfl|rfl|rfl|rfl|rfl|rfl|rfl|h8
 ·rw [exS_1] at hlen ⊢
  have HL:=qh hlen;have hn:InI n:=⟨by omega,by have:=n1;rw [mostE,if_pos rfl] at this;omega⟩;clear IH hx hsb hnm hfd hsl o1 o2 n0 n1 hlen hsz;have HN:=qh hn;clear hn;go_enter Tryz.func99,Tryz.ntmps99
  go_upto_region 1 with (fail)
  subst e1;generalize w.alloc (.cells #[.int .i64 1,.int .i64 n,.string ⟨s.toArray⟩,.string ⟨f.toArray⟩,.slice A sl c,.int .i64 ln] 44)=w1 at *;have ⟨c0,_,c1,_,c2,_,c3,_,c4,_,_⟩:=H1.out.box;simp only [sv,Sl.v] at c2 c3 c4;go_wp2_with (go_at_call 60;fail)
  refine (decimal_any n HN.out _ K1.out.laid).mono ?_;rintro e w2 ⟨rfl,hb⟩;have K2:=qh (K1.out.below hb);have F2:=qh (F1.out.trans (Fr.of hb K1.out.le));clear hb c0 c1 c2 c3 c4 K1 F1 H1;unfold sv;go_wp2_with (go_at_call 35;fail)
  refine (put_new [numS n] (t:=numS n) (by simp) K2.out (by simp) HL.out).mono ?_;rintro e w3 ⟨rfl,k9,f9⟩;have K9:=qh k9;have F9:=qh (F2.out.trans f9);clear k9 f9;go_wp2_with fail
  go_end0
  exact ⟨rfl,K9.out,F9.out⟩
 ·rw [exS_2] at hlen ⊢
  have HL:=qh hlen;clear IH hx hsb hnm hfd hsl o1 o2 n0 n1 hlen hsz;go_enter Tryz.func99,Tryz.ntmps99
  go_upto_region 1 with (fail)
  subst e1;generalize w.alloc (.cells #[.int .i64 2,.int .i64 n,.string ⟨s.toArray⟩,.string ⟨f.toArray⟩,.slice A sl c,.int .i64 ln] 44)=w1 at *;have ⟨c0,_,c1,_,c2,_,c3,_,c4,_,_⟩:=H1.out.box;simp only [sv,Sl.v] at c2 c3 c4;go_wp2_with (go_at_call 61;fail)
  refine (truth_any n _).mono ?_;rintro e w2 ⟨rfl,rfl⟩;unfold sv;go_wp2_with (go_at_call 35;fail)
  refine (put_new [truthS n] (t:=truthS n) (by simp) K1.out (by simp) HL.out).mono ?_;rintro e w3 ⟨rfl,k9,f9⟩;have K9:=qh k9;have F9:=qh (F1.out.trans f9);clear k9 f9;go_wp2_with fail
  go_end0
  exact ⟨rfl,K9.out,F9.out⟩
 ·rw [exS_3] at hlen ⊢
  have HL:=qh hlen;clear IH hx hsb hnm hfd hsl o1 o2 n0 n1 hlen hsz;go_enter Tryz.func99,Tryz.ntmps99
  go_upto_region 1 with (fail)
  subst e1;generalize w.alloc (.cells #[.int .i64 3,.int .i64 n,.string ⟨s.toArray⟩,.string ⟨f.toArray⟩,.slice A sl c,.int .i64 ln] 44)=w1 at *;have ⟨c0,_,c1,_,c2,_,c3,_,c4,_,_⟩:=H1.out.box;simp only [sv,Sl.v] at c2 c3 c4;go_wp2_with (go_at_call 35;fail)
  refine (put_new [s] (t:=s) (by simp) K1.out (by simp) HL.out).mono ?_;rintro e w3 ⟨rfl,k9,f9⟩;have K9:=qh k9;have F9:=qh (F1.out.trans f9);clear k9 f9;go_wp2_with fail
  go_end0
  exact ⟨rfl,K9.out,F9.out⟩
 ·have hl1:xsub.length=1:=hsl
  obtain ⟨y,⟨yo,yn,ys,yf,⟨yA,yl,yc⟩,yln⟩,b0,o0,rfl,hy,hA,hb0,hr0,hsl1⟩:=sub_one hx hl1;simp only at hA hsl1;subst hA hsl1;have hyb:exB y=true:=by rw [exsB,exsB,Bool.and_true] at hsb;exact hsb
  have hys:SizeOf.sizeOf y<N:=by have:=hsz;simp only [List.cons.sizeOf_spec] at this;omega
  rw [exS_4] at hlen ⊢;have AR:=qh fun W (hf:Fr B g w W) (hW:Wx B g l W)=>IH y hys ⟨yo,yn,ys,yf,⟨yA,yl,yc⟩,yln⟩ B g l (s++[91]) [93] W hW (hy.below hf.1 (Nat.le_refl _)) hyb hlen
  have RR:=qh fun W (hf:Fr B g w W)=>range_below hr0 hf.1 hb0
  have hcat0:¬ 9223372036854775807<(⟨s.toArray⟩:ByteArray).size+1:=by rw [sz_sv];have:=nm_len (show nmB s=true from hnm);omega
  clear IH hx hsb hnm hfd hsl o1 o2 n0 n1 hlen hsz hy hyb hys hr0 hl1;obtain ⟨xs,hxs⟩:∃ z,(⟨s.toArray⟩:ByteArray)=z:=⟨_,rfl⟩;have HX:=qh hxs;rw [hxs] at e1 hcat0 ⊢;clear hxs;go_enter Tryz.func99,Tryz.ntmps99
  go_upto_region 1 with (fail)
  subst e1;generalize w.alloc (.cells #[.int .i64 4,.int .i64 n,.string xs,.string ⟨f.toArray⟩,.slice (some ⟨b0,o0,none⟩) 1 c,.int .i64 ln] 44)=w1 at *;have ⟨c0,_,c1,_,c2,_,c3,_,c4,_,_⟩:=H1.out.box;simp only [sv,Sl.v] at c2 c3 c4;rw [HX.out] at c2;go_upto_region 11 with (fail)
  have ⟨r0,r1,r2,r3,r4,r5⟩:=range_cells (RR.out _ F1.out);simp only [sv,Sl.v] at r2 r3 r4;refine still_named 8 (by kernel_rfl) ?_;intro w2 hc2 _ hb2 _;rw [←hc2] at c0 c1 c2 c3 c4 r0 r1 r2 r3 r4 r5;have K2:=qh (K1.out.drew hb2);have F2:=qh (F1.out.trans (Fr.of (hb2 _) K1.out.le));clear hc2 hb2 K1 F1 RR H1;simp only [List.take_succ_cons,List.take_zero,List.drop_succ_cons,List.drop_zero];repeat still_step
  refine wpStill_nil ?_;rw [show xs++⟨#[91]⟩=⟨(s++[91]).toArray⟩ by rw [←HX.out];exact cat_sv s [91]];go_wp2_with (go_at_call 100;fail)
  refine (AR.out _ F2.out K2.out).mono ?_;rintro e w3 ⟨rfl,k9,f9⟩;have K9:=qh k9;have F9:=qh (F2.out.trans f9);clear k9 f9;go_wp2_with fail
  go_end0
  exact ⟨rfl,K9.out,F9.out⟩
 ·rw [exS_5] at hlen ⊢
  have HL:=qh hlen;clear IH hx hsb hnm hfd hsl o1 o2 n0 n1 hlen hsz;go_enter Tryz.func99,Tryz.ntmps99
  go_upto_region 1 with (fail)
  subst e1;generalize w.alloc (.cells #[.int .i64 5,.int .i64 n,.string ⟨s.toArray⟩,.string ⟨f.toArray⟩,.slice A sl c,.int .i64 ln] 44)=w1 at *;have ⟨c0,_,c1,_,c2,_,c3,_,c4,_,_⟩:=H1.out.box;simp only [sv,Sl.v] at c2 c3 c4;go_wp2_with (go_at_call 35;fail)
  refine (put_new [s,[46],f] (t:=s++[46]++f) (by simp) K1.out (by simp) HL.out).mono ?_;rintro e w3 ⟨rfl,k9,f9⟩;have K9:=qh k9;have F9:=qh (F1.out.trans f9);clear k9 f9;go_wp2_with fail
  go_end0
  exact ⟨rfl,K9.out,F9.out⟩
 ·have hl1:xsub.length=1:=hsl
  obtain ⟨y,⟨yo,yn,ys,yf,⟨yA,yl,yc⟩,yln⟩,b0,o0,rfl,hy,hA,hb0,hr0,hsl1⟩:=sub_one hx hl1;simp only at hA hsl1;subst hA hsl1;have hyb:exB y=true:=by rw [exsB,exsB,Bool.and_true] at hsb;exact hsb
  have hys:SizeOf.sizeOf y<N:=by have:=hsz;simp only [List.cons.sizeOf_spec] at this;omega
  rw [exS_6] at hlen ⊢;have AR:=qh fun W (hf:Fr B g w W) (hW:Wx B g l W)=>IH y hys ⟨yo,yn,ys,yf,⟨yA,yl,yc⟩,yln⟩ B g l [40,45] [41] W hW (hy.below hf.1 (Nat.le_refl _)) hyb hlen
  have RR:=qh fun W (hf:Fr B g w W)=>range_below hr0 hf.1 hb0
  clear IH hx hsb hnm hfd hsl o1 o2 n0 n1 hlen hsz hy hyb hys hr0 hl1;go_enter Tryz.func99,Tryz.ntmps99
  go_upto_region 1 with (fail)
  subst e1;generalize w.alloc (.cells #[.int .i64 6,.int .i64 n,.string ⟨s.toArray⟩,.string ⟨f.toArray⟩,.slice (some ⟨b0,o0,none⟩) 1 c,.int .i64 ln] 44)=w1 at *;have ⟨c0,_,c1,_,c2,_,c3,_,c4,_,_⟩:=H1.out.box;simp only [sv,Sl.v] at c2 c3 c4;have R1:=qh (RR.out _ F1.out);go_wp2_with (first|((with_reducible refine m_loadR R1.out 44 71 ?_ ?_ ?_ ?_ ?_ ?_);rfl;rfl;rfl;rfl;kernel_rfl)|(go_at_call 100;fail))
  refine (AR.out _ F1.out K1.out).mono ?_;rintro e w3 ⟨rfl,k9,f9⟩;have K9:=qh k9;have F9:=qh (F1.out.trans f9);clear k9 f9;go_wp2_with fail
  go_end0
  exact ⟨rfl,K9.out,F9.out⟩
 ·have hl1:xsub.length=1:=hsl
  obtain ⟨y,⟨yo,yn,ys,yf,⟨yA,yl,yc⟩,yln⟩,b0,o0,rfl,hy,hA,hb0,hr0,hsl1⟩:=sub_one hx hl1;simp only at hA hsl1;subst hA hsl1;have hyb:exB y=true:=by rw [exsB,exsB,Bool.and_true] at hsb;exact hsb
  have hys:SizeOf.sizeOf y<N:=by have:=hsz;simp only [List.cons.sizeOf_spec] at this;omega
  rw [exS_7] at hlen ⊢;have AR:=qh fun W (hf:Fr B g w W) (hW:Wx B g l W)=>IH y hys ⟨yo,yn,ys,yf,⟨yA,yl,yc⟩,yln⟩ B g l [40,78,79,84,32] [41] W hW (hy.below hf.1 (Nat.le_refl _)) hyb hlen
  have RR:=qh fun W (hf:Fr B g w W)=>range_below hr0 hf.1 hb0
  clear IH hx hsb hnm hfd hsl o1 o2 n0 n1 hlen hsz hy hyb hys hr0 hl1;go_enter Tryz.func99,Tryz.ntmps99
  go_upto_region 1 with (fail)
  subst e1;generalize w.alloc (.cells #[.int .i64 7,.int .i64 n,.string ⟨s.toArray⟩,.string ⟨f.toArray⟩,.slice (some ⟨b0,o0,none⟩) 1 c,.int .i64 ln] 44)=w1 at *;have ⟨c0,_,c1,_,c2,_,c3,_,c4,_,_⟩:=H1.out.box;simp only [sv,Sl.v] at c2 c3 c4;have R1:=qh (RR.out _ F1.out);go_wp2_with (first|((with_reducible refine m_loadR R1.out 44 79 ?_ ?_ ?_ ?_ ?_ ?_);rfl;rfl;rfl;rfl;kernel_rfl)|(go_at_call 100;fail))
  refine (AR.out _ F1.out K1.out).mono ?_;rintro e w3 ⟨rfl,k9,f9⟩;have K9:=qh k9;have F9:=qh (F1.out.trans f9);clear k9 f9;go_wp2_with fail
  go_end0
  exact ⟨rfl,K9.out,F9.out⟩
 ·have hl2:xsub.length=2:=by
   rw [hsl];unfold subsE;rw [if_neg (by omega),if_pos h8]
  obtain ⟨y,z,⟨yo,yn,ys,yf,⟨yA,yl,yc⟩,yln⟩,⟨zo,zn,zs,zf,⟨zA,zl,zc⟩,zln⟩,b0,o0,rfl,hy,hz,hA,hb0,hr0,hr1,hsl2⟩:=sub_two hx hl2;simp only at hA hsl2;subst hA hsl2;have hyzb:exB y=true∧exB z=true:=by rw [exsB,exsB,exsB,Bool.and_true,Bool.and_eq_true] at hsb;exact hsb
  have hyzs:SizeOf.sizeOf y<N∧SizeOf.sizeOf z<N:=by have:=hsz;simp only [List.cons.sizeOf_spec] at this;omega
  rw [exS_8 h8] at hlen ⊢;obtain ⟨T,hT⟩:∃ T,[32]++opS o++[32]=T:=⟨_,rfl⟩;rw [hT] at hlen ⊢;have HT:=qh hT;have hop:(opS o).length≤3:=by
   rcases (show o=8∨o=9∨o=10∨o=11∨o=12∨o=13∨o=14∨o=15∨o=16∨o=17∨o=18∨o=19∨o=20∨o=21 by omega) with rfl|rfl|rfl|rfl|rfl|rfl|rfl|rfl|rfl|rfl|rfl|rfl|rfl|rfl<;>decide
  simp only [List.length_append] at hlen;have A1:=qh fun W (hf:Fr B g w W) (hW:Wx B g l W)=>IH y hyzs.1 ⟨yo,yn,ys,yf,⟨yA,yl,yc⟩,yln⟩ B g l [40] T W hW (hy.below hf.1 (Nat.le_refl _)) hyzb.1 (by simp only [List.length_append];omega)
  have A2:=qh fun W (hf:Fr B g w W) (hW:Wx B g (l++([40]++exS y++T)) W)=>IH z hyzs.2 ⟨zo,zn,zs,zf,⟨zA,zl,zc⟩,zln⟩ B g (l++([40]++exS y++T)) [] [41] W hW (hz.below hf.1 (Nat.le_refl _)) hyzb.2 (by simp only [List.length_append,List.length_nil];omega)
  have R0:=qh fun W (hf:Fr B g w W)=>range_below hr0 hf.1 hb0
  have R1:=qh fun W (hf:Fr B g w W)=>range_below hr1 hf.1 hb0
  have SG:=qh fun W=>signOf_any o W
  unfold sv at SG;have hcat1:¬ 9223372036854775807<1+(⟨(opS o).toArray⟩:ByteArray).size:=by rw [sz_sv];omega
  have hcat2:¬ 9223372036854775807<1+(⟨(opS o).toArray⟩:ByteArray).size+1:=by rw [sz_sv];omega
  obtain ⟨xo,hxo⟩:∃ z,(⟨(opS o).toArray⟩:ByteArray)=z:=⟨_,rfl⟩;have hcat3:¬ 9223372036854775807<((⟨#[32]⟩:ByteArray)++xo).size+1:=by rw [←hxo,show (⟨#[32]⟩:ByteArray)++⟨(opS o).toArray⟩=⟨([32]++opS o).toArray⟩ from cat_sv [32] (opS o),sz_sv,List.length_append];simp;omega
  have HX:=qh hxo;rw [hxo] at SG hcat1 hcat2;have z1:=neb (show o≠1 by omega);have z2:=neb (show o≠2 by omega);have z3:=neb (show o≠3 by omega);have z4:=neb (show o≠4 by omega);have z5:=neb (show o≠5 by omega);have z6:=neb (show o≠6 by omega);have z7:=neb (show o≠7 by omega);clear IH hx hsb hnm hfd hsl o1 o2 n0 n1 hlen hsz hy hz hyzb hyzs hr0 hr1 hl2 hT hxo hop h8;go_enter Tryz.func99,Tryz.ntmps99
  go_upto_region 1 with (fail)
  subst e1;generalize w.alloc (.cells #[.int .i64 o,.int .i64 n,.string ⟨s.toArray⟩,.string ⟨f.toArray⟩,.slice (some ⟨b0,o0,none⟩) 2 c,.int .i64 ln] 44)=w1 at *;have ⟨c0,_,c1,_,c2,_,c3,_,c4,_,_⟩:=H1.out.box;simp only [sv,Sl.v] at c2 c3 c4;go_upto_region 2 with (fail)
  clear z1 z2 z3 z4 z5 z6 z7;have ⟨r0,r1,r2,r3,r4,r5⟩:=range_cells (R0.out _ F1.out);simp only [sv,Sl.v] at r2 r3 r4;refine still_named 10 (by kernel_rfl) ?_;intro w2 hc2 _ hb2 _;rw [←hc2] at c0 c1 c2 c3 c4 r0 r1 r2 r3 r4 r5;have K2:=qh (K1.out.drew hb2);have F2:=qh (F1.out.trans (Fr.of (hb2 _) K1.out.le));have H2:=qh (H1.out.fr (Fr.of (hb2 _) K1.out.le) NG.out (by decide));clear hc2 hb2 K1 F1 R0 H1;simp only [List.take_succ_cons,List.take_zero,List.drop_succ_cons,List.drop_zero];repeat still_step
  refine wpStill_step (fun K hK=>?_);go_simp;refine ⟨.string xo,(SG.out w2).mono fun _ _ h=>⟨h.1,h.2⟩,hK _ ?_⟩;clear hK K;repeat still_step
  refine wpStill_nil ?_;rw [show (⟨#[32]⟩:ByteArray)++xo++⟨#[32]⟩=⟨T.toArray⟩ by rw [←HX.out,←HT.out,show (⟨#[32]⟩:ByteArray)++⟨(opS o).toArray⟩=⟨([32]++opS o).toArray⟩ from cat_sv [32] (opS o)];exact cat_sv ([32]++opS o) [32]];clear hcat1 hcat2 hcat3 r0 r1 r2 r3 r4 r5 c0 c1 c2 c3 c4;go_wp2_with (go_at_call 100;fail)
  refine (A1.out _ F2.out K2.out).mono ?_;rintro e w3 ⟨rfl,k3,f3⟩;have K3:=qh k3;have F3:=qh (F2.out.trans f3);have H3:=qh (H2.out.fr f3 NG.out (by decide));clear k3 f3 A1 F2 K2 H2;have ⟨c0,_,c1,_,c2,_,c3,_,c4,_,_⟩:=H3.out.box;simp only [sv,Sl.v] at c2 c3 c4;have R3:=qh (R1.out _ F3.out);go_wp2_with (first|((with_reducible refine m_loadR R3.out 44 20 ?_ ?_ ?_ ?_ ?_ ?_);rfl;rfl;rfl;rfl;kernel_rfl)|(go_at_call 100;fail))
  refine (A2.out _ F3.out K3.out).mono ?_;rintro e w4 ⟨rfl,k4,f4⟩;have K9:=qh k4;have F9:=qh (F3.out.trans f4);clear k4 f4 A2 F3 K3 H3;go_wp2_with fail
  go_end0
  exact ⟨rfl,by have h9:=K9.out;simp only [List.append_assoc,List.nil_append,List.cons_append,List.singleton_append] at h9 ⊢;exact h9,F9.out⟩
theorem expr_all:∀ N,WrE N
 | 0=>fun _ h=>absurd h (by omega)
 | N+1=>expr_step (around_step (expr_all N))
theorem around_any {x:Ex} {h:EH} {B g:Nat} {l a b:Str} {w:World} (hK:Wx B g l w) (hx:ExAt w B x h) (hxb:exB x=true) (hlen:l.length+(a++exS x++b).length≤lim) :
  Calls Tryz.prog 100 #[.pointer (some ⟨g,0,none⟩),sv a,.agg (eC h).toArray,sv b] w (Put B g l (a++exS x++b) w):=
 around_step (expr_all (SizeOf.sizeOf x+1)) x (by omega) h B g l a b w hK hx hxb hlen
theorem expr_any {x:Ex} {h:EH} {B g:Nat} {l:Str} {w:World} (hK:Wx B g l w) (hx:ExAt w B x h) (hxb:exB x=true) (hlen:l.length+(exS x).length≤lim) :
  Calls Tryz.prog 99 #[.pointer (some ⟨g,0,none⟩),.agg (eC h).toArray] w (Put B g l (exS x) w):=
 expr_all (SizeOf.sizeOf x+1) x (by omega) h B g l w hK hx hxb hlen
theorem drop_two {L:List Int} {q:Nat} (h:q+1<L.length):∃ a b,L.drop q=a::b::L.drop (q+2)∧L[q]?=some a∧L[q+1]?=some b:=by
  refine ⟨L[q],L[q+1],?_,List.getElem?_eq_getElem _,List.getElem?_eq_getElem _⟩;rw [List.drop_eq_getElem_cons (by omega),List.drop_eq_getElem_cons h]
theorem row_cell {w:World} {B:Nat} {A:Option Addr} {n c:Nat} {L:List Int} (h:Rd iC 1 w B A n c L) {q:Nat} {a:Int} (hq:L[q]?=some a):∃ b o,A=some ⟨b,o,none⟩∧b<B∧w.cell? ⟨b,o+q,none⟩=some (.int .i64 a):=by
  obtain ⟨b,o,x,hA,hb,hp,hc⟩:=h.at (i:=q) (by rw [←h.1];exact (List.getElem?_eq_some_iff.1 hq).1);obtain rfl:a=x:=by simpa [hq] using hp
  have:=hc 0 _ rfl;rw [Nat.add_zero,Nat.mul_one] at this;exact ⟨b,o,hA,hb,this⟩
theorem meas2 {q n:Nat} (h:q<n) (hw:wrap64 ((q:Int)+2)=((q+2:Nat):Int)):n-(intOf (.int .i64 (wrap64 ((q:Int)+2)))).toNat<n-(intOf (.int .i64 (q:Int))).toNat∧n-(intOf (.int .i64 ((q:Int)+2))).toNat<n-(intOf (.int .i64 (q:Int))).toNat:=by
  rw [hw];simp only [intOf];omega
theorem labels_any {B g:Nat} {l:Str} {L:List Int} {s:Sl} {w:World} (hK:Wx B g l w) (hR:RS iC 1 w B s L) (h2:L.length % 2=0) (hi:∀ n∈L,InI n) (hlen:l.length+(labT false L).length≤lim) :
    Calls Tryz.prog 129 #[.pointer (some ⟨g,0,none⟩),s.v] w (Put B g l (labT false L) w):=by
  obtain ⟨A,n,c⟩:=s;have hR:Rd iC 1 w B A n c L:=hR;have hn:L.length=n:=hR.1;have hnl:=hR.len_le;obtain ⟨T,hT⟩:∃ T,labT false L=T:=⟨_,rfl⟩;rw [hT] at hlen ⊢;have HT:=qh hT;have HL:=qh hlen;have HR:=qh hR;have HI:=qh hi;have HN:=qh (And.intro hn (And.intro h2 hnl));have K0:=qh hK;clear hR hlen hi hn h2 hK hT;simp only [Sl.v];go_enter Tryz.func129,Tryz.ntmps129
  go_upto_region 1 with (fail)
  go_loopw [4] (fun s4 wr=>∃ (q:Nat) (t1:Str),q≤n∧q % 2=0∧s4=.int .i64 q∧t1++labT (decide (0<q)) (L.drop q)=T∧Wx B g (l++t1) wr∧Fr B g w wr) (fun i _=>n-(intOf i).toNat)
  case atStart=>exact ⟨0,[],Nat.zero_le _,rfl,rfl,by rw [List.drop_zero];exact HT.out,by rw [List.append_nil];exact K0.out,Fr.refl _ _ _⟩
  case round=>
    obtain ⟨q,t1,hq,hq2,rfl,ht,hk,hf⟩:=hrel;by_cases hlt:q<n
    rotate_left
    · obtain rfl:q=n:=by omega
      have hz:¬ (q:Int)<q:=by omega
      rw [List.drop_of_length_le (by rw [HN.out.1];exact Nat.le_refl _)] at ht;have ht:t1++[58,10]=T:=by
        rw [←ht];cases decide (0<q)<;>rfl
      have P1:=qh (put_new [[58,10]] (t:=[58,10]) rfl hk (by decide) (by have:=HL.out;rw [←ht,List.length_append] at this;rw [List.length_append];omega));have FF:=qh hf;have HTT:=qh ht;clear hk hf ht;go_wp2_with (go_at_call 35;fail)
      refine P1.out.mono ?_;rintro e w3 ⟨rfl,k9,f9⟩;have K9:=qh k9;have F9:=qh (FF.out.trans f9);clear k9 f9 P1;go_wp2_with fail
      go_end0
      exact ⟨rfl,by have:=K9.out;rw [List.append_assoc,HTT.out] at this;exact this,F9.out⟩
    have hq1:q+1<L.length:=by have:=HN.out.2.1;have:=HN.out.1;omega
    obtain ⟨a,b,hd,ha,hb⟩:=drop_two hq1;have ia:=qh (HI.out a (List.mem_of_getElem? ha));have ib:=qh (HI.out b (List.mem_of_getElem? hb));obtain ⟨b1,o1,rfl,hbB,ca⟩:=row_cell HR.out ha;obtain ⟨b2,o2,e2,_,cb⟩:=row_cell HR.out hb;injection e2 with e2
    injection e2 with e3 e4 _
    subst e3 e4;rw [hd] at ht;have hlq:(q:Int)+2≤9223372036854775807:=by have:=HN.out.2.2;have:=HN.out.1;omega
    have w1:IntKind.i64.wrap ((q:Int)+1)=((q+1:Nat):Int):=by rw [IntKind.wrap_i64];omega
    have w2':wrap64 ((q:Int)+1)=((q+1:Nat):Int):=by unfold wrap64;omega
    have w3:wrap64 ((q:Int)+2)=((q+2:Nat):Int):=by unfold wrap64;omega
    have hin:(q:Int)+1<n:=by have:=HN.out.1;omega
    have hin':q+1<n:=by omega
    obtain ⟨sp,hsp⟩:∃ sp:Str,(if decide (0<q)=true then [44,32] else [])=sp:=⟨_,rfl⟩;obtain ⟨rg,hrg⟩:∃ rg:Str,(if b=a then [] else [46,46]++numS b)=rg:=⟨_,rfl⟩;have ht2:t1++(sp++numS a++rg)++labT (decide (0<q+2)) (L.drop (q+2))=T:=by
      rw [←ht,labT,hsp,hrg,show decide (0<q+2)=true from decide_eq_true (by omega)];simp only [List.append_assoc]
    have HT2:=qh ht2;have HLT:Hid (l.length+t1.length+sp.length+(numS a).length+rg.length≤lim):=qh (by
      have h1:=HL.out;rw [←ht2] at h1;simp only [List.length_append] at h1;omega)
    have HSP:=qh hsp;have HRG:=qh hrg;have KK:=qh hk;have FF:=qh hf;have CC:=qh fun W (h:Fr B g w W)=>And.intro ((h.1.cell (p:=⟨b1,o1+q,none⟩) hbB).trans ca) ((h.1.cell (p:=⟨b1,o1+(q+1),none⟩) hbB).trans cb)
    have W1:=qh w1;have W3:=qh w3;have QQ:=qh (And.intro hq (And.intro hq2 (And.intro hlt hin')));clear ht ht2 hsp hrg hk hf ha hb hd hlq hq1 ca cb w1 w2' w3 hq hq2 hin hin' hlt hbB;have hlt:(q:Int)<n:=by have:=QQ.out.2.2.1;omega
    obtain ⟨m,hm⟩:∃ m,decide (0<q)=m:=⟨_,rfl⟩;have HM:=qh hm;clear hm;go_upto_region 3 with (fail)
    clear hlt;cases m
    all_goals
      first
        | (have hx:Hid (decide (0<q)=false):=HM
           have h0:¬ (0:Int)<q:=by have:=of_decide_eq_false HM.out;omega
           have K2:=qh (show Wx B g (l++(t1++sp)) wr by rw [←HSP.out,HM.out,if_neg (by decide),List.append_nil];exact KK.out);have F2:=qh FF.out;clear KK FF hx)
        | (have h0:(0:Int)<q:=by have:=of_decide_eq_true HM.out;omega
           have sp2:[44,32]=sp:=by rw [←HSP.out,HM.out];rfl
           have P1:=qh (put_new [[44,32]] (t:=[44,32]) rfl KK.out (by decide) (by have:=HLT.out;rw [←sp2] at this;simp only [List.length_append];simp only [List.length_cons,List.length_nil] at this ⊢;omega));have SP2:=qh sp2;clear sp2;go_wp2_with (go_at_call 35;fail)
           refine P1.out.mono ?_;rintro e w2 ⟨rfl,k9,f9⟩;have K2:=qh (show Wx B g (l++(t1++sp)) w2 by rw [←SP2.out,←List.append_assoc];exact k9);have F2:=qh (FF.out.trans f9);clear k9 f9 P1 KK FF)
      go_upto_region 5 with (fail)
      have ⟨ca,cb⟩:=CC.out _ F2.out;have hin:(q:Int)+1<n:=by have:=QQ.out.2.2.2;omega
      have hlt:(q:Int)<n:=by have:=QQ.out.2.2.1;omega
      have w1:=W1.out;go_quiet (fail)
      rename_i nq;have KD:=qh (K2.out.below (below_drawn (Below.refl _ _) nq));have FD:=qh (F2.out.trans (Fr.of (below_drawn (Below.refl _ _) nq) K2.out.le));clear h0 ca cb hin hlt w1 K2 F2;go_wp2_with (go_at_call 60;fail)
      refine (decimal_any a ia.out _ KD.out.laid).mono ?_;rintro e w4 ⟨rfl,hb⟩;have K4:=qh (KD.out.below hb);have F4:=qh (FD.out.trans (Fr.of hb KD.out.le));clear hb KD FD;unfold sv;go_wp2_with (go_at_call 35;fail)
      refine (put_new [numS a] (t:=numS a) (by simp) K4.out (by simp) (by have:=HLT.out;simp only [List.length_append];omega)).mono ?_;rintro e w5 ⟨rfl,k9,f9⟩;have K5:=qh k9;have F5:=qh (F4.out.trans f9);clear k9 f9 K4 F4;by_cases hab:b=a
      · have z:(b != a)=false:=by rw [hab];simp
        have rg2:[]=rg:=by rw [←HRG.out,if_pos hab]
        have KE:=qh (show Wx B g (l++(t1++(sp++numS a++rg))) w5 by rw [←rg2];have:=K5.out;simpa only [List.append_assoc,List.append_nil] using this);have w3:=W3.out;clear hab K5 rg2;go_wp2_with fail
        go_roundw
        case rel=>exact ⟨q+2,t1++(sp++numS a++rg),by have:=QQ.out;omega,by have:=QQ.out;omega,by go_num,HT2.out,KE.out,F5.out⟩
        case measure=>
          have hm:=qh (meas2 QQ.out.2.2.1 W3.out);first|exact hm.out.1|exact hm.out.2|trace_state
      · have z:(b != a)=true:=by rw [bne_iff_ne];exact hab
        have rg2:[46,46]++numS b=rg:=by rw [←HRG.out,if_neg hab]
        have RG2:=qh rg2;clear hab rg2;go_wp2_with (go_at_call 60;fail)
        refine (decimal_any b ib.out _ K5.out.laid).mono ?_;rintro e w6 ⟨rfl,hb⟩;have K6:=qh (K5.out.below hb);have F6:=qh (F5.out.trans (Fr.of hb K5.out.le));clear hb K5 F5;unfold sv;go_wp2_with (go_at_call 35;fail)
        refine (put_new [[46,46],numS b] (t:=rg) (by rw [←RG2.out];simp) K6.out (by simp) (by have:=HLT.out;simp only [List.length_append];omega)).mono ?_;rintro e w7 ⟨rfl,k9,f9⟩;have KE:=qh (show Wx B g (l++(t1++(sp++numS a++rg))) w7 by have:=k9;simpa only [List.append_assoc] using this);have F7:=qh (F6.out.trans f9);have w3:=W3.out;clear k9 f9 K6 F6;go_wp2_with fail
        go_roundw
        case rel=>exact ⟨q+2,t1++(sp++numS a++rg),by have:=QQ.out;omega,by have:=QQ.out;omega,by go_num,HT2.out,KE.out,F7.out⟩
        case measure=>
          have hm:=qh (meas2 QQ.out.2.2.1 W3.out);first|exact hm.out.1|exact hm.out.2|trace_state
end sh
namespace sh
open ChangeShapes WideShapes ChangeAt RowKit k rr tk tr
theorem rsub {w:World} {b o:Nat} {L:List Value} (pre mid post:List Value) (hL:L=pre++(mid++post)) (h:w.rangeAt b o L):w.rangeAt b (o+pre.length) mid:=fun j v hv=>by
 have h2:=h (pre.length+j) v (by rw [hL,List.getElem?_append_right (by omega),Nat.add_sub_cancel_left,List.getElem?_append_left ((List.getElem?_eq_some_iff.1 hv).1)];exact hv);rw [←Nat.add_assoc] at h2;exact h2
theorem st_dst {w:World} {g:Nat} {h:SH} (hb:Box w g 0 (sC h)):w.rangeAt g 2 (eC h.dst):=rsub [.int .i64 h.op,sv h.name] (eC h.dst) (eC h.val++[h.conds.v,h.labels.v,h.fields.v,h.blocks.v,.int .i64 h.line]) rfl hb.range
theorem st_val {w:World} {g:Nat} {h:SH} (hb:Box w g 0 (sC h)):w.rangeAt g 8 (eC h.val):=rsub ([.int .i64 h.op,sv h.name]++eC h.dst) (eC h.val) [h.conds.v,h.labels.v,h.fields.v,h.blocks.v,.int .i64 h.line] rfl hb.range
theorem row_all {α:Type} {L:List α} {i:Nat} (h:i<L.length) (f:α→Bool):(L.drop i).all f=((L[i]?.map f).getD false&&(L.drop (i+1)).all f):=by
 rw [List.drop_eq_getElem_cons h,List.all_cons,List.getElem?_eq_getElem h];rfl
theorem rightLabels_any {L:List Int} {s:Sl} {w:World} (h1:RS iC 1 w w.heap.size s L):Calls Tryz.prog 93 #[s.v] w fun e w'=>e=.returned (.bool (labB L))∧Below w.heap.size w w':=by
 have AL:=qh (all_i h1 (fun i=>(L.drop i).all fun n=>n != -9223372036854775808) (fun i=>(L[i]?.map fun n=>n != -9223372036854775808).getD false) _ rfl
  (by show (L.drop s.l).all _=true;rw [List.drop_of_length_le (by rw [h1.1];exact Nat.le_refl _)];rfl) (fun i hi=>row_all (by rw [h1.1];exact hi) _) (fun i x hx W hW=>by rw [at_get hx];exact signed_any x W))
 have hl:L.length=s.l:=h1.1;have hle:(s.l:Int)≤9223372036854775807:=Rd.len_le h1;unfold labB;rw [hl];rw [show L.drop 0=L from rfl] at AL;obtain ⟨A,n,c⟩:=s;simp only [Sl.v] at AL hle ⊢;generalize (L.all fun n=>n != -9223372036854775808)=u at *;clear h1 hl;go_enter Tryz.func93,Tryz.ntmps93
 by_cases h0:0<n
 rotate_left
 ·have h0':¬ (0:Int)<n:=by omega
  rw [decide_eq_false h0];go_wp2;go_ret
  exact ⟨rfl,Below.refl _ _⟩
 have h0':(0:Int)<n:=by omega
 rw [decide_eq_true h0];obtain ⟨v,hv⟩:∃ v,(n % 2==0)=v:=⟨_,rfl⟩;have h2:((n:Int) % 2==0)=v:=by
  rw [←hv,Bool.eq_iff_iff,beq_iff_eq,beq_iff_eq];omega
 have h3:(((n:Int).tmod 2)==0)=v:=by
  rw [Int.tmod_eq_emod_of_nonneg (by omega)];exact h2
 rw [hv];clear hv h0;cases v
 ·go_wp2
  go_ret
  exact ⟨rfl,Below.refl _ _⟩
 ·go_wp2_with (go_at_call 123;fail)
  refine AL.out.mono ?_;rintro e w2 ⟨rfl,hb⟩;have B2:=qh hb;clear hb AL;go_wp2_with fail
  go_ret
  exact ⟨rfl,B2.out⟩
theorem rightPlace_any {x:Ex} {h:EH} {w:World} (hM:MaxL w) (hx:ExAt w w.heap.size x h):Calls Tryz.prog 89 #[.agg (eC h).toArray] w fun e w'=>e=.returned (.bool (placeB x))∧Below w.heap.size w w':=by
 have RX:=qh (fun W (hW:Below w.heap.size w W)=>right_e (hM.below hW) (hx.below hW hW.size));have ho:opE x=h.op:=by
  cases x
  unfold ExAt at hx;exact hx.1.symm
 unfold placeB;rw [ho];generalize exB x=u at *;have HB:=qh (al1 w (.cells (eC h).toArray 44));have X1:=qh (Box.new w (eC h).toArray 44);clear hM hx ho;obtain ⟨u1,h1⟩:∃ u,(h.op==3)=u:=⟨_,rfl⟩;obtain ⟨u2,h2⟩:∃ u,(h.op==4)=u:=⟨_,rfl⟩;rw [h1,h2];have c0:=(cell_of X1.out (i:=0) rfl).1;go_enter Tryz.func89,Tryz.ntmps89
 go_upto_region 1 with (fail)
 generalize w.alloc (.cells (eC h).toArray 44)=w1 at *;have RX1:=qh (RX.out w1 HB.out);clear RX;have X1:Hid (Box w1 w.heap.size 0 (eC h)):=X1;cases u1<;>cases u2
 ·go_wp2_with fail
  go_ret
  exact ⟨rfl,HB.out⟩
 all_goals
  go_wp2_with (first|((with_reducible refine m_load X1.out 44 1 ?_ ?_ ?_ ?_ ?_ ?_);rfl;rfl;rfl;rfl;kernel_rfl)|(go_at_call 90;fail))
  refine RX1.out.mono ?_;rintro e w2 ⟨rfl,hb⟩;have B2:=btr HB hb;clear hb RX1;go_wp2_with fail
  go_ret
  exact ⟨rfl,B2.out⟩
theorem flag {w:World} {g i:Nat} {vs:List Value} (hb:Box w g 0 vs) (hi:i<vs.length) (hv:vs[i]?=some (.int .i64 0)) (u:Bool) :
  ∃ w',(bif u then w.setCell ⟨g,i,none⟩ (.int .i64 1) else w)=w'∧Box w' g 0 (vs.set i (.int .i64 (oneIf u)))∧(∀ g' vs',g'≠g→Box w g' 0 vs'→Box w' g' 0 vs')∧(∀ B,B≤g→Below B w w')∧w'.heap.size=w.heap.size:=by
 cases u
 ·refine ⟨w,rfl,?_,fun _ _ _ h=>h,fun _ _=>Below.refl _ _,rfl⟩
  have:vs.set i (.int .i64 (oneIf false))=vs:=by
   refine List.ext_getElem? fun j=>?_
   rw [List.getElem?_set];split
   ·rename_i h
    subst h;rw [hv];rfl
   ·rfl
  rw [this];exact hb
 ·exact ⟨_,rfl,Box.put hb i hi _,fun g' vs' hne h=>Box_aside (Ne.symm hne) _ h,fun B hB=>(Below.refl _ _).setCell hB _,by simp⟩
def partsS (h:SH) (x y:Bool):Pt:=⟨oneIf (h.name != []),oneIf (!x),oneIf (!y),h.conds.l,h.labels.l,h.fields.l,h.blocks.l⟩
theorem partsOf_any {h:SH} {x y:Ex} {w:World} {B:Nat} (hx:ExAt w B x h.dst) (hy:ExAt w B y h.val) (hB:B≤w.heap.size):Calls Tryz.prog 87 #[.agg (sC h).toArray] w fun e w'=>e=.returned (.agg (ptC (partsS h (noE x) (noE y))).toArray)∧Below w.heap.size w w':=by
 have MX:=qh fun W (hW:Below w.heap.size w W)=>missing_any (hx.below (hW.mono hB) (Nat.le_refl _))
 have MY:=qh fun W (hW:Below w.heap.size w W)=>missing_any (hy.below (hW.mono hB) (Nat.le_refl _))
 have t1:=str_no h.name _ rfl;clear hx hy hB;unfold partsS;generalize noE x=n1 at *;generalize noE y=n2 at *;obtain ⟨op,nm,hd,hv,⟨A1,l1,c1⟩,⟨A2,l2,c2⟩,⟨A3,l3,c3⟩,⟨A4,l4,c4⟩,ln⟩:=h;simp only at MX MY t1 ⊢;have X0:=qh (Box.new w (sC ⟨op,nm,hd,hv,⟨A1,l1,c1⟩,⟨A2,l2,c2⟩,⟨A3,l3,c3⟩,⟨A4,l4,c4⟩,ln⟩).toArray 49);have Z0:=qh (show (w.alloc (.cells (sC ⟨op,nm,hd,hv,⟨A1,l1,c1⟩,⟨A2,l2,c2⟩,⟨A3,l3,c3⟩,⟨A4,l4,c4⟩,ln⟩).toArray 49)).heap.size=w.heap.size+1 by simp);have B0:=qh (al1 w (.cells (sC ⟨op,nm,hd,hv,⟨A1,l1,c1⟩,⟨A2,l2,c2⟩,⟨A3,l3,c3⟩,⟨A4,l4,c4⟩,ln⟩).toArray 49));have t2:(nm != [])=!(nm==[]):=rfl;have t3:((⟨nm.toArray⟩:ByteArray).toList != [])=!(nm==[]):=by rw [bne,t1]
 rw [t2];clear t2;have t4:(⟨nm.toArray⟩:ByteArray).toList.isEmpty=(nm==[]):=by
  rw [←t1];cases (⟨nm.toArray⟩:ByteArray).toList<;>rfl
 clear t3 t1;obtain ⟨LV,hLV⟩:∃ L,ptC ⟨oneIf !(nm==[]),oneIf !n1,oneIf !n2,l1,l2,l3,l4⟩=L:=⟨_,rfl⟩;rw [hLV];have hone:∀ u∈LV,u.oneCell'=true:=hLV ▸ ptC_one _;have HO:=qh (And.intro hone (show LV.length=7 by rw [←hLV];rfl));have HLV:=qh hLV;clear hLV hone;go_enter Tryz.func87,Tryz.ntmps87
 go_upto_region 1 with (fail)
 generalize w.alloc (.cells (sC ⟨op,nm,hd,hv,⟨A1,l1,c1⟩,⟨A2,l2,c2⟩,⟨A3,l3,c3⟩,⟨A4,l4,c4⟩,ln⟩).toArray 49)=w1 at *;have X0:Hid (Box w1 w.heap.size 0 (sC ⟨op,nm,hd,hv,⟨A1,l1,c1⟩,⟨A2,l2,c2⟩,⟨A3,l3,c3⟩,⟨A4,l4,c4⟩,ln⟩)):=X0;have c14:=(cell_of X0.out (i:=14) rfl).1;have X1:=qh (Box.new w1 #[.int .i64 0,.int .i64 0,.int .i64 0,.int .i64 0,.int .i64 0,.int .i64 0,.int .i64 0] 136);have hb1:=al1 w1 (.cells #[.int .i64 0,.int .i64 0,.int .i64 0,.int .i64 0,.int .i64 0,.int .i64 0,.int .i64 0] 136);have hz1:(w1.alloc (.cells #[.int .i64 0,.int .i64 0,.int .i64 0,.int .i64 0,.int .i64 0,.int .i64 0,.int .i64 0] 136)).heap.size=w1.heap.size+1:=by simp
 rw [Z0.out] at hb1 hz1 X1;generalize w1.alloc (.cells #[.int .i64 0,.int .i64 0,.int .i64 0,.int .i64 0,.int .i64 0,.int .i64 0,.int .i64 0] 136)=w2 at *;have Y0:=qh (X0.out.below hb1 (by omega));have B1:=qh (B0.out.trans (hb1.mono (by omega)));have Z1:=qh hz1;have X1:Hid (Box w2 (w.heap.size+1) 0 [.int .i64 0,.int .i64 0,.int .i64 0,.int .i64 0,.int .i64 0,.int .i64 0,.int .i64 0]):=X1;have hg1:=Z0.out;clear hb1 hz1 X0 B0 Z0 c14;have c14:=(cell_of Y0.out (i:=14) rfl).1;have c15:=(cell_of Y0.out (i:=15) rfl).1;have c16:=(cell_of Y0.out (i:=16) rfl).1;have c17:=(cell_of Y0.out (i:=17) rfl).1;have c1:=(cell_of Y0.out (i:=1) rfl).1;simp only [Sl.v,sv] at c14 c15 c16 c17 c1;have hz2:=Z1.out;go_upto_region 2 with (fail)
 have hx:=Box.new w2 #[.int .i64 0,.int .i64 0,.int .i64 0,.int .i64 l1,.int .i64 l2,.int .i64 l3,.int .i64 l4] 136;have hb:=al1 w2 (.cells #[.int .i64 0,.int .i64 0,.int .i64 0,.int .i64 l1,.int .i64 l2,.int .i64 l3,.int .i64 l4] 136);have hz:(w2.alloc (.cells #[.int .i64 0,.int .i64 0,.int .i64 0,.int .i64 l1,.int .i64 l2,.int .i64 l3,.int .i64 l4] 136)).heap.size=w2.heap.size+1:=by simp
 rw [Z1.out] at hb hz hx;generalize w2.alloc (.cells #[.int .i64 0,.int .i64 0,.int .i64 0,.int .i64 l1,.int .i64 l2,.int .i64 l3,.int .i64 l4] 136)=w3 at *;obtain ⟨w4,e4,v4,k4,b4,z4⟩:=flag (i:=0) hx (by simp) rfl (!(nm==[]));have hx:Box w3 (w.heap.size+1+1) 0 [.int .i64 0,.int .i64 0,.int .i64 0,.int .i64 l1,.int .i64 l2,.int .i64 l3,.int .i64 l4]:=hx;have V4:Hid (Box w4 (w.heap.size+1+1) 0 [.int .i64 (oneIf !(nm==[])),.int .i64 0,.int .i64 0,.int .i64 l1,.int .i64 l2,.int .i64 l3,.int .i64 l4]):=qh v4;have Y4:=qh (k4 _ _ (by omega) (Y0.out.below hb (by omega)));have X4:=qh (k4 _ _ (by omega) (X1.out.below hb (by omega)));have B4:=qh (B1.out.trans ((hb.trans (b4 _ (Nat.le_refl _))).mono (by omega)));have Z4:=qh (z4.trans hz);have d1:=(cell_of (Y0.out.below hb (by omega)) (i:=1) rfl).1;have d0:=cell_of hx (i:=0) rfl;simp only [sv] at d1;have ⟨d0,f0⟩:=d0;clear hx hb hz v4 k4 b4 z4 Y0 X1 B1 Z1 c14 c15 c16 c17 c1 hz2;generalize (nm==[])=u1 at *;generalize (⟨nm.toArray⟩:ByteArray)=xs at *;cases u1
 all_goals
  have E4:=qh e4;clear e4;go_upto_region 4 with (fail)
  first
   | (have e4:w3.setCell ⟨w.heap.size+1+1,0,none⟩ (.int .i64 1)=w4:=E4.out;rw [e4];clear e4)
   | (have e4:w3=w4:=E4.out;subst e4)
  clear E4 d0 f0 d1;go_wp2_with (first|((with_reducible refine m_loadR (st_dst Y4.out) 44 21 ?_ ?_ ?_ ?_ ?_ ?_);rfl;rfl;rfl;rfl;kernel_rfl)|(go_at_call 119;fail))
  refine (MX.out _ B4.out).mono ?_;rintro e w5 ⟨rfl,hb⟩;have V5:=qh (V4.out.below hb (by have:=Z4.out;omega));have Y5:=qh (Y4.out.below hb (by have:=Z4.out;omega));have X5:=qh (X4.out.below hb (by have:=Z4.out;omega));have B5:=btr B4 hb;have Z5:=qh (show w.heap.size+1+1<w5.heap.size by have:=Z4.out;have:=hb.size;omega);clear hb V4 Y4 X4 B4 Z4 MX;obtain ⟨w6,e6,v6,k6,b6,z6⟩:=flag (i:=1) V5.out (by simp) rfl (!n1);have ⟨d0,f0⟩:=cell_of V5.out (i:=1) rfl;have V6:=qh v6;have Y6:=qh (k6 _ _ (by omega) Y5.out);have X6:=qh (k6 _ _ (by omega) X5.out);have B6:=qh (B5.out.trans (b6 _ (by omega)));have Z6:=qh (show w.heap.size+1+1<w6.heap.size by have:=Z5.out;omega);clear v6 k6 b6 z6 V5 Y5 X5 B5 Z5;cases n1
  all_goals
   have E6:=qh e6;clear e6;go_upto_region 6 with (fail)
   first
    | (have e6:w5.setCell ⟨w.heap.size+1+1,1,none⟩ (.int .i64 1)=w6:=E6.out;rw [e6];clear e6)
    | (have e6:w5=w6:=E6.out;subst e6)
   clear E6 d0 f0;go_wp2_with (first|((with_reducible refine m_loadR (st_val Y6.out) 44 26 ?_ ?_ ?_ ?_ ?_ ?_);rfl;rfl;rfl;rfl;kernel_rfl)|(go_at_call 119;fail))
   refine (MY.out _ B6.out).mono ?_;rintro e w7 ⟨rfl,hb⟩;have V7:=qh (V6.out.below hb Z6.out);have X7:=qh (X6.out.below hb (by have:=Z6.out;omega));have B7:=btr B6 hb;have Z7:=qh (show w.heap.size+1+1<w7.heap.size by have:=Z6.out;have:=hb.size;omega);clear hb V6 Y6 X6 B6 Z6 MY;obtain ⟨w8,e8,v8,k8,b8,z8⟩:=flag (i:=2) V7.out (by simp) rfl (!n2);have ⟨d0,f0⟩:=cell_of V7.out (i:=2) rfl;have X8:=qh (k8 _ _ (by omega) X7.out);have B8:=qh (B7.out.trans (b8 _ (by omega)));have Z8:=qh (show w.heap.size+1+1<w8.heap.size by have:=Z7.out;omega);clear k8 b8 z8 V7 X7 B7;have V8:Hid (Box w8 (w.heap.size+1+1) 0 LV):=qh (by rw [←HLV.out];exact v8);clear v8 HLV;cases n2
   all_goals
    have E8:=qh e8;clear e8;go_upto_region 8 with (fail)
    first
     | (have e8:w7.setCell ⟨w.heap.size+1+1,2,none⟩ (.int .i64 1)=w8:=E8.out;rw [e8];clear e8)
     | (have e8:w7=w8:=E8.out;subst e8)
    clear E8 d0 f0;go_wp2_with (first|((with_reducible refine m_load V8.out 136 3 ?_ ?_ ?_ ?_ ?_ ?_);rfl;rfl;rfl;rfl;(rw [HO.out.2];kernel_rfl))|((with_reducible refine m_store X8.out 136 2 31 ?_ ?_ ?_ LV ?_ ?_ ?_ ?_ HO.out.1 ?_);rfl;rfl;rfl;rfl;rfl;exact HO.out.2;(rw [HO.out.2];kernel_rfl);intro w9 hx hg hs))
    refine bodyPost_ret (k.results_cell rfl rfl (run_loadVar_mid _ (w.heap.size+1) 0 136 _ _ hx.range rfl rfl (by rw [HO.out.2];kernel_rfl))) rfl ?_;exact ⟨rfl,B8.out.trans (gr_below hg (by omega) (by have:=Z8.out;omega))⟩
structure Kp (w W:World) (g:Nat) (LX LV:List Value):Prop where
  x:Box W w.heap.size 0 LX
  v:Box W g 0 LV
  b:Below w.heap.size w W
  z:w.heap.size<W.heap.size∧g<W.heap.size
theorem Kp.step {w W W':World} {g:Nat} {LX LV:List Value} (h:Kp w W g LX LV) (hb:Below W.heap.size W W'):Kp w W' g LX LV:=
  ⟨h.x.below hb h.z.1,h.v.below hb h.z.2,h.b.trans (hb.mono h.b.size),by have:=h.z;have:=hb.size;omega⟩
theorem oneIf_zero (b:Bool):(((oneIf (!b):Nat):Int)==0)=b:=by cases b<;>rfl
theorem stsB_at {L:List St} {i:Nat} (h:i<L.length):stsB (L.drop i)=((L[i]?.map stB).getD false&&stsB (L.drop (i+1))):=by
  rw [List.drop_eq_getElem_cons h,stsB,List.getElem?_eq_getElem h];rfl
theorem blksB_at {L:List (List St)} {i:Nat} (h:i<L.length):blksB (L.drop i)=((L[i]?.map stsB).getD false&&blksB (L.drop (i+1))):=by
  rw [List.drop_eq_getElem_cons h,blksB,List.getElem?_eq_getElem h];rfl
abbrev big:Nat:=1099511627776
def RiS (N:Nat):Prop:=∀ x:St,SizeOf.sizeOf x<N→wS x≤big→∀ (h:SH) (w:World),MaxL w→StAt w w.heap.size x h→Calls Tryz.prog 57 #[.agg (sC h).toArray] w fun e w'=>e=.returned (.bool (stB x))∧Below w.heap.size w w'
theorem block_right {N:Nat} (IH:RiS N) {L:List St} (hN:SizeOf.sizeOf L≤N) (hW:wsS L≤big) {s:Sl} {w:World} (hM:MaxL w) (h1:StL w w.heap.size s L) :
    Calls Tryz.prog 34 #[s.v] w fun e w'=>e=.returned (.bool (stsB L))∧Below w.heap.size w w':=by
  have AL:=qh (show Calls Tryz.prog 56 #[s.v,.func (.func 57) #[] #[]] w fun e w'=>e=.returned (.bool (stsB L))∧Below w.heap.size w w' from by
    obtain ⟨H,h1,h3⟩:=h1;have l1:L.length=s.l:=h3.len.symm.trans h1.1;refine all_s h1 (fun i=>stsB (L.drop i)) (fun i=>(L[i]?.map stB).getD false) _ rfl ?_ (fun i hi=>stsB_at (by omega)) (fun i a ha W hW'=>?_)
    · show stsB (L.drop s.l)=true
      rw [List.drop_of_length_le (by omega)];rfl
    · obtain ⟨x,hx,hxa⟩:=h3.at ha
      rw [at_get hx];exact IH x (by have:=at_size hx;omega) (by have:=wsS_mem (List.mem_of_getElem? hx);omega) a W (hM.below hW') (hxa.below hW' hW'.size))
  obtain ⟨A,n,c⟩:=s;simp only [Sl.v] at AL ⊢;clear h1 hM;go_enter Tryz.func34,Tryz.ntmps34
  go_wp2_with (go_at_call 56;fail)
  refine AL.out.mono ?_;rintro e w2 ⟨rfl,hb⟩;have B2:=qh hb;clear hb AL;go_wp2_with fail
  go_ret
  exact ⟨rfl,B2.out⟩
theorem blocks_right {N:Nat} (IH:RiS N) {L:List (List St)} (hN:SizeOf.sizeOf L≤N) (hW:wsB L≤big) {s:Sl} {w:World} (hM:MaxL w) {H:List Sl} (h1:RS slC 1 w w.heap.size s H) (h3:BlksAt w w.heap.size L H) :
    Calls Tryz.prog 95 #[s.v,.func (.func 34) #[] #[]] w fun e w'=>e=.returned (.bool (blksB L))∧Below w.heap.size w w':=by
  have l1:L.length=s.l:=h3.len.symm.trans h1.1;refine all_b h1 (fun i=>blksB (L.drop i)) (fun i=>(L[i]?.map stsB).getD false) _ rfl ?_ (fun i hi=>blksB_at (by omega)) (fun i a ha W hW'=>?_)
  · show blksB (L.drop s.l)=true
    rw [List.drop_of_length_le (by omega)];rfl
  · obtain ⟨x,hx,hxa⟩:=h3.at ha
    rw [at_get hx];exact block_right IH (by have:=at_size hx;omega) (by have:=wsB_mem (List.mem_of_getElem? hx);omega) (hM.below hW') (StL.below hxa hW' hW'.size)
theorem labels_right {L:List (List Int)} {s:Sl} {w:World} {H:List Sl} (h1:RS slC 1 w w.heap.size s H) (h3:LabsAt w w.heap.size L H) :
    Calls Tryz.prog 92 #[s.v,.func (.func 93) #[] #[]] w fun e w'=>e=.returned (.bool (L.all labB))∧Below w.heap.size w w':=by
  have l1:L.length=s.l:=h3.len.symm.trans h1.1;refine all_l h1 (fun i=>(L.drop i).all labB) (fun i=>(L[i]?.map labB).getD false) _ rfl ?_ (fun i hi=>row_all (by omega) _) (fun i a ha W hW'=>?_)
  · show (L.drop s.l).all labB=true
    rw [List.drop_of_length_le (by omega)];rfl
  · obtain ⟨x,hx,hxa⟩:=h3.at ha
    rw [at_get hx];exact rightLabels_any (hxa.below hW' hW'.size)
theorem names_right {L:List Str} {s:Sl} {w:World} (hM:MaxL w) (h1:RS tC1 1 w w.heap.size s L) :
    Calls Tryz.prog 94 #[s.v,.func (.func 31) #[] #[]] w fun e w'=>e=.returned (.bool (L.all nmB))∧Below w.heap.size w w':=by
  have l1:L.length=s.l:=h1.1;refine all_n h1 (fun i=>(L.drop i).all nmB) (fun i=>(L[i]?.map nmB).getD false) _ rfl ?_ (fun i hi=>row_all (by omega) _) (fun i a ha W hW'=>?_)
  · show (L.drop s.l).all nmB=true
    rw [List.drop_of_length_le (by omega)];rfl
  · rw [at_get ha]
    exact isName_any _ W (hM.below hW')
theorem right_s_step {N:Nat} (IH:RiS N):RiS (N+1):=by
  unfold RiS;intro x hN hwx h w hM hx;obtain ⟨xo,xnm,xd,xv,xcs,xls,xfs,xbs,xl⟩:=x;unfold StAt at hx;obtain ⟨h1,h2,h3,h4,h5,h6,⟨LH,h7,h8⟩,h9,BH,h10,h11⟩:=hx;subst h1 h2 h3;have PO:=qh fun W (hW:Below w.heap.size w W)=>partsOf_any (h:=h) (h4.below hW hW.size) (h5.below hW hW.size) (Nat.le_refl _)
  have lc:xcs.length=h.conds.l:=by obtain ⟨H,a,b⟩:=h6;exact b.len.symm.trans a.1
  have ll:xls.length=h.labels.l:=h8.len.symm.trans h7.1;have lf:xfs.length=h.fields.l:=h9.1;have lb:xbs.length=h.blocks.l:=h11.len.symm.trans h10.1;simp only [St.mk.sizeOf_spec] at hN;rw [wS] at hwx;have wc:=wsE_len xcs;have wl:=wL_len xls;have RP:=qh fun W (hW:Below w.heap.size w W)=>rightParts_any h.op (partsS h (noE xd) (noE xv)) (by unfold partsS;simp only;unfold big at hwx;omega) (by unfold partsS;simp only;unfold big at hwx;omega) W
  have C1:=qh fun W (hW:Below w.heap.size w W)=>isName_any ⟨h.name.toArray⟩ W (hM.below hW)
  have C2:=qh fun W (hW:Below w.heap.size w W)=>rightPlace_any (hM.below hW) (h4.below hW hW.size)
  have C3:=qh fun W (hW:Below w.heap.size w W)=>right_e (hM.below hW) (h5.below hW hW.size)
  have C4:=qh fun W (hW:Below w.heap.size w W)=>right_el (hM.below hW) (h6.below hW hW.size)
  have C5:=qh fun W (hW:Below w.heap.size w W)=>labels_right (h7.below hW hW.size) (LabsAt.below hW hW.size h8)
  have C6:=qh fun W (hW:Below w.heap.size w W)=>names_right (hM.below hW) (h9.below hW hW.size)
  have C7:=qh fun W (hW:Below w.heap.size w W)=>blocks_right IH (by omega) (by omega) (hM.below hW) (h10.below hW hW.size) (BlksAt.below hW hW.size h11)
  rw [stB,lc,ll,lf,lb];rw [sv_list] at C1;have HP:Hid ((⟨oneIf (h.name != []),oneIf (!noE xd),oneIf (!noE xv),h.conds.l,h.labels.l,h.fields.l,h.blocks.l⟩:Pt)=partsS h (noE xd) (noE xv)):=qh rfl;rw [HP.out];have o1:(((oneIf (h.name != []):Nat):Int)==0)=(h.name==[]):=oneIf_zero _;have o2:=oneIf_zero (noE xd);have o3:=oneIf_zero (noE xv);have X0:=qh (Box.new w (sC h).toArray 49);have Z0:=qh (show (w.alloc (.cells (sC h).toArray 49)).heap.size=w.heap.size+1 by simp);have B0:=qh (al1 w (.cells (sC h).toArray 49));clear hM hN hwx wc wl h4 h5 h6 h7 h8 h9 h10 h11 lc ll lf lb IH HP;obtain ⟨q0,hq0⟩:∃ u,stOk h.op (partsS h (noE xd) (noE xv))=u:=⟨_,rfl⟩;rw [hq0] at RP ⊢;clear hq0;generalize nmB h.name=u1 at *;generalize placeB xd=u2 at *;generalize exB xv=u3 at *;generalize exsB xcs=u4 at *;generalize xls.all labB=u5 at *;generalize xfs.all nmB=u6 at *;generalize blksB xbs=u7 at *;unfold partsS at PO RP;generalize (h.name==[])=v1 at *;generalize noE xd=v2 at *;generalize noE xv=v3 at *;obtain ⟨p1,hp1⟩:∃ p,oneIf (h.name != [])=p:=⟨_,rfl⟩;obtain ⟨p2,hp2⟩:∃ p,oneIf (!v2)=p:=⟨_,rfl⟩;obtain ⟨p3,hp3⟩:∃ p,oneIf (!v3)=p:=⟨_,rfl⟩;rw [hp1] at PO RP o1;rw [hp2] at PO RP o2;rw [hp3] at PO RP o3;clear hp1 hp2 hp3;obtain ⟨R,hR⟩:∃ R,(q0&&((v1||u1)&&((v2||u2)&&((v3||u3)&&(u4&&(u5&&(u6&&u7)))))))=R:=⟨_,rfl⟩;rw [hR];have HR:=qh hR;clear hR;simp only [Sl.v] at C4 C5 C6 C7;go_enter Tryz.func57,Tryz.ntmps57
  go_upto_region 1 with (fail)
  generalize w.alloc (.cells (sC h).toArray 49)=w1 at *;have X0:Hid (Box w1 w.heap.size 0 (sC h)):=X0;go_wp2_with (first|((with_reducible refine m_load X0.out 49 1 ?_ ?_ ?_ ?_ ?_ ?_);rfl;rfl;rfl;rfl;kernel_rfl)|(go_at_call 87;fail))
  refine (PO.out _ B0.out).mono ?_;rintro e w2 ⟨rfl,hb⟩;have X2:=qh (X0.out.below hb (by have:=Z0.out;omega));have B2:=btr B0 hb;have Z2:=qh (show w.heap.size+1≤w2.heap.size by have:=Z0.out;have:=hb.size;omega);clear hb X0 B0 Z0 PO;go_upto_region 2 with ((with_reducible refine m_new 136 3 5 ?_ ?_ ?_ (ptC ⟨p1,p2,p3,h.conds.l,h.labels.l,h.fields.l,h.blocks.l⟩) ?_ ?_ ?_ ?_ (ptC_one _) ?_);rfl;rfl;rfl;rfl;rfl;rfl;kernel_rfl;intro w3 hx hb hz)
  have K:=qh (Kp.mk (X2.out.below hb (by have:=Z2.out;omega)) hx (B2.out.trans (hb.mono B2.out.size)) (by have:=Z2.out;omega):Kp w w3 w2.heap.size (sC h) _);clear hx hb hz X2 B2 Z2;have ⟨d0,_,d1,_,d2,_,_⟩:=K.out.v;have c0:=(cell_of K.out.x (i:=0) rfl).1;have c1:=(cell_of K.out.x (i:=1) rfl).1;have c14:=(cell_of K.out.x (i:=14) rfl).1;have c15:=(cell_of K.out.x (i:=15) rfl).1;have c16:=(cell_of K.out.x (i:=16) rfl).1;have c17:=(cell_of K.out.x (i:=17) rfl).1;simp only [Sl.v,sv] at c1 c14 c15 c16 c17;go_wp2_with (first|((with_reducible refine m_load K.out.v 136 3 ?_ ?_ ?_ ?_ ?_ ?_);rfl;rfl;rfl;rfl;kernel_rfl)|(go_at_call 88;fail))
  refine (RP.out _ K.out.b).mono ?_;rintro e w4 ⟨rfl,hb⟩;have K_:=qh (K.out.step hb);clear d0 d1 d2 c0 c1 c14 c15 c16 c17 hb RP K;have K:=qh K_.out;clear K_;have ⟨d0,_,d1,_,d2,_,_⟩:=K.out.v;have c0:=(cell_of K.out.x (i:=0) rfl).1;have c1:=(cell_of K.out.x (i:=1) rfl).1;have c14:=(cell_of K.out.x (i:=14) rfl).1;have c15:=(cell_of K.out.x (i:=15) rfl).1;have c16:=(cell_of K.out.x (i:=16) rfl).1;have c17:=(cell_of K.out.x (i:=17) rfl).1;simp only [Sl.v,sv] at c1 c14 c15 c16 c17;cases q0
  · have HF:=qh (show R=false by rw [←HR.out];simp)
    go_wp2_with fail
    go_ret
    exact ⟨ret_bool HF.out.symm,K.out.b⟩
  obtain ⟨m1,hm1⟩:∃ m:Bool,m=v1:=⟨_,rfl⟩;have HM1:=qh hm1;clear hm1;obtain ⟨m2,hm2⟩:∃ m:Bool,m=v2:=⟨_,rfl⟩;have HM2:=qh hm2;clear hm2;obtain ⟨m3,hm3⟩:∃ m:Bool,m=v3:=⟨_,rfl⟩;have HM3:=qh hm3;clear hm3;cases v1<;>cases v2<;>cases v3
  all_goals
    first
      | (have hq:Hid (m1=true):=HM1;clear hq)
      | (go_wp2_with (go_at_call 31;fail)
         refine (C1.out _ K.out.b).mono ?_;rintro e w5 ⟨rfl,hb⟩;have K_:=qh (K.out.step hb);clear d0 d1 d2 c0 c1 c14 c15 c16 c17 hb C1 K;have K:=qh K_.out;clear K_;have ⟨d0,_,d1,_,d2,_,_⟩:=K.out.v;have c0:=(cell_of K.out.x (i:=0) rfl).1;have c1:=(cell_of K.out.x (i:=1) rfl).1;have c14:=(cell_of K.out.x (i:=14) rfl).1;have c15:=(cell_of K.out.x (i:=15) rfl).1;have c16:=(cell_of K.out.x (i:=16) rfl).1;have c17:=(cell_of K.out.x (i:=17) rfl).1;simp only [Sl.v,sv] at c1 c14 c15 c16 c17;cases u1
         · have HF:=qh (show R=false by rw [←HR.out];simp)
           go_wp2_with fail
           go_ret
           exact ⟨ret_bool HF.out.symm,K.out.b⟩
         skip)
    first
      | (have hq:Hid (m2=true):=HM2;clear hq)
      | (go_wp2_with (first|((with_reducible refine m_loadR (st_dst K.out.x) 44 25 ?_ ?_ ?_ ?_ ?_ ?_);rfl;rfl;rfl;rfl;kernel_rfl)|(go_at_call 89;fail))
         refine (C2.out _ K.out.b).mono ?_;rintro e w6 ⟨rfl,hb⟩;have K_:=qh (K.out.step hb);clear d0 d1 d2 c0 c1 c14 c15 c16 c17 hb C2 K;have K:=qh K_.out;clear K_;have ⟨d0,_,d1,_,d2,_,_⟩:=K.out.v;have c0:=(cell_of K.out.x (i:=0) rfl).1;have c1:=(cell_of K.out.x (i:=1) rfl).1;have c14:=(cell_of K.out.x (i:=14) rfl).1;have c15:=(cell_of K.out.x (i:=15) rfl).1;have c16:=(cell_of K.out.x (i:=16) rfl).1;have c17:=(cell_of K.out.x (i:=17) rfl).1;simp only [Sl.v,sv] at c1 c14 c15 c16 c17;cases u2
         · have HF:=qh (show R=false by rw [←HR.out];simp)
           go_wp2_with fail
           go_ret
           exact ⟨ret_bool HF.out.symm,K.out.b⟩
         skip)
    first
      | (have hq:Hid (m3=true):=HM3;clear hq)
      | (go_wp2_with (first|((with_reducible refine m_loadR (st_val K.out.x) 44 35 ?_ ?_ ?_ ?_ ?_ ?_);rfl;rfl;rfl;rfl;kernel_rfl)|(go_at_call 90;fail))
         refine (C3.out _ K.out.b).mono ?_;rintro e w7 ⟨rfl,hb⟩;have K_:=qh (K.out.step hb);clear d0 d1 d2 c0 c1 c14 c15 c16 c17 hb C3 K;have K:=qh K_.out;clear K_;have ⟨d0,_,d1,_,d2,_,_⟩:=K.out.v;have c0:=(cell_of K.out.x (i:=0) rfl).1;have c1:=(cell_of K.out.x (i:=1) rfl).1;have c14:=(cell_of K.out.x (i:=14) rfl).1;have c15:=(cell_of K.out.x (i:=15) rfl).1;have c16:=(cell_of K.out.x (i:=16) rfl).1;have c17:=(cell_of K.out.x (i:=17) rfl).1;simp only [Sl.v,sv] at c1 c14 c15 c16 c17;cases u3
         · have HF:=qh (show R=false by rw [←HR.out];simp)
           go_wp2_with fail
           go_ret
           exact ⟨ret_bool HF.out.symm,K.out.b⟩
         skip)
    go_wp2_with (go_at_call 91;fail)
    refine (C4.out _ K.out.b).mono ?_;rintro e w8 ⟨rfl,hb⟩;have K_:=qh (K.out.step hb);clear d0 d1 d2 c0 c1 c14 c15 c16 c17 hb C4 K;have K:=qh K_.out;clear K_;have ⟨d0,_,d1,_,d2,_,_⟩:=K.out.v;have c0:=(cell_of K.out.x (i:=0) rfl).1;have c1:=(cell_of K.out.x (i:=1) rfl).1;have c14:=(cell_of K.out.x (i:=14) rfl).1;have c15:=(cell_of K.out.x (i:=15) rfl).1;have c16:=(cell_of K.out.x (i:=16) rfl).1;have c17:=(cell_of K.out.x (i:=17) rfl).1;simp only [Sl.v,sv] at c1 c14 c15 c16 c17;cases u4
    · have HF:=qh (show R=false by rw [←HR.out];simp)
      go_wp2_with fail
      go_ret
      exact ⟨ret_bool HF.out.symm,K.out.b⟩
    go_wp2_with (go_at_call 92;fail)
    refine (C5.out _ K.out.b).mono ?_;rintro e w9 ⟨rfl,hb⟩;have K_:=qh (K.out.step hb);clear d0 d1 d2 c0 c1 c14 c15 c16 c17 hb C5 K;have K:=qh K_.out;clear K_;have ⟨d0,_,d1,_,d2,_,_⟩:=K.out.v;have c0:=(cell_of K.out.x (i:=0) rfl).1;have c1:=(cell_of K.out.x (i:=1) rfl).1;have c14:=(cell_of K.out.x (i:=14) rfl).1;have c15:=(cell_of K.out.x (i:=15) rfl).1;have c16:=(cell_of K.out.x (i:=16) rfl).1;have c17:=(cell_of K.out.x (i:=17) rfl).1;simp only [Sl.v,sv] at c1 c14 c15 c16 c17;cases u5
    · have HF:=qh (show R=false by rw [←HR.out];simp)
      go_wp2_with fail
      go_ret
      exact ⟨ret_bool HF.out.symm,K.out.b⟩
    go_wp2_with (go_at_call 94;fail)
    refine (C6.out _ K.out.b).mono ?_;rintro e w10 ⟨rfl,hb⟩;have K_:=qh (K.out.step hb);clear d0 d1 d2 c0 c1 c14 c15 c16 c17 hb C6 K;have K:=qh K_.out;clear K_;have ⟨d0,_,d1,_,d2,_,_⟩:=K.out.v;have c0:=(cell_of K.out.x (i:=0) rfl).1;have c1:=(cell_of K.out.x (i:=1) rfl).1;have c14:=(cell_of K.out.x (i:=14) rfl).1;have c15:=(cell_of K.out.x (i:=15) rfl).1;have c16:=(cell_of K.out.x (i:=16) rfl).1;have c17:=(cell_of K.out.x (i:=17) rfl).1;simp only [Sl.v,sv] at c1 c14 c15 c16 c17;cases u6
    · have HF:=qh (show R=false by rw [←HR.out];simp)
      go_wp2_with fail
      go_ret
      exact ⟨ret_bool HF.out.symm,K.out.b⟩
    go_wp2_with (go_at_call 95;fail)
    refine (C7.out _ K.out.b).mono ?_;rintro e w11 ⟨rfl,hb⟩;have K_:=qh (K.out.step hb);clear d0 d1 d2 c0 c1 c14 c15 c16 c17 hb C7 K;have K:=qh K_.out;clear K_;have ⟨d0,_,d1,_,d2,_,_⟩:=K.out.v;have c0:=(cell_of K.out.x (i:=0) rfl).1;have c1:=(cell_of K.out.x (i:=1) rfl).1;have c14:=(cell_of K.out.x (i:=14) rfl).1;have c15:=(cell_of K.out.x (i:=15) rfl).1;have c16:=(cell_of K.out.x (i:=16) rfl).1;have c17:=(cell_of K.out.x (i:=17) rfl).1;simp only [Sl.v,sv] at c1 c14 c15 c16 c17;have HF:=qh (show u7=R by rw [←HR.out];simp);go_wp2_with fail
    go_ret
    exact ⟨ret_bool HF.out,K.out.b⟩
theorem right_s_all:∀ N,RiS N
  | 0=>fun _ h=>absurd h (by omega)
  | N+1=>right_s_step (right_s_all N)
theorem right_sl {L:List St} (hW:wsS L≤big) {s:Sl} {w:World} (hM:MaxL w) (h1:StL w w.heap.size s L) :
    Calls Tryz.prog 34 #[s.v] w fun e w'=>e=.returned (.bool (stsB L))∧Below w.heap.size w w':=
  block_right (right_s_all (SizeOf.sizeOf L)) (Nat.le_refl _) hW hM h1
end sh
namespace sh
open ChangeShapes WideShapes ChangeAt RowKit k rr tk tr
mutual
def inS:St→Prop
 | .mk _ _ _ _ _ labels _ blocks _=>(∀ l∈labels,∀ n∈l,InI n)∧inBs blocks
def inSs:List St→Prop
 | []=>True
 | x::l=>inS x∧inSs l
def inBs:List (List St)→Prop
 | []=>True
 | x::l=>inSs x∧inBs l
end
theorem inSs_at:∀ {L:List St} {i:Nat} {x:St},inSs L→L[i]?=some x→inS x
 | y::l,0,x,h,e=>by (obtain rfl:y=x:=by simpa using e);exact h.1
 | y::l,i+1,x,h,e=>inSs_at (L:=l) (i:=i) h.2 (by simpa using e)
theorem inBs_at:∀ {L:List (List St)} {i:Nat} {x:List St},inBs L→L[i]?=some x→inSs x
 | y::l,0,x,h,e=>by (obtain rfl:y=x:=by simpa using e);exact h.1
 | y::l,i+1,x,h,e=>inBs_at (L:=l) (i:=i) h.2 (by simpa using e)
theorem stsB_at':∀ {L:List St} {i:Nat} {x:St},stsB L=true→L[i]?=some x→stB x=true
 | y::l,0,x,h,e=>by
  obtain rfl:y=x:=by simpa using e
  rw [stsB,Bool.and_eq_true] at h;exact h.1
 | y::l,i+1,x,h,e=>by
  rw [stsB,Bool.and_eq_true] at h;exact stsB_at' (L:=l) (i:=i) h.2 (by simpa using e)
theorem blksB_at':∀ {L:List (List St)} {i:Nat} {x:List St},blksB L=true→L[i]?=some x→stsB x=true
 | y::l,0,x,h,e=>by
  obtain rfl:y=x:=by simpa using e
  rw [blksB,Bool.and_eq_true] at h;exact h.1
 | y::l,i+1,x,h,e=>by
  rw [blksB,Bool.and_eq_true] at h;exact blksB_at' (L:=l) (i:=i) h.2 (by simpa using e)
theorem exsB_at':∀ {L:List Ex} {i:Nat} {x:Ex},exsB L=true→L[i]?=some x→exB x=true
 | y::l,0,x,h,e=>by
  obtain rfl:y=x:=by simpa using e
  rw [exsB,Bool.and_eq_true] at h;exact h.1
 | y::l,i+1,x,h,e=>by
  rw [exsB,Bool.and_eq_true] at h;exact exsB_at' (L:=l) (i:=i) h.2 (by simpa using e)
theorem drop_at {α:Type} {L:List α} {q:Nat} {x:α} (h:L[q]?=some x):L.drop q=x::L.drop (q+1):=by
 obtain ⟨a1,a2⟩:=List.getElem?_eq_some_iff.1 h;rw [List.drop_eq_getElem_cons a1,a2]
def WrS (N:Nat):Prop:=∀ x:St,SizeOf.sizeOf x<N→stB x=true→inS x→∀ (h:SH) (B g:Nat) (l:Str) (w:World),Wx B g l w→StAt w B x h→l.length+(stS x).length≤lim →
 Calls Tryz.prog 63 #[.pointer (some ⟨g,0,none⟩),.agg (sC h).toArray] w (Put B g l (stS x) w)
def WrB (N:Nat):Prop:=∀ L:List St,SizeOf.sizeOf L<N→stsB L=true→inSs L→∀ (s:Sl) (B g:Nat) (l:Str) (w:World),Wx B g l w→StL w B s L→l.length+(stsS L).length≤lim →
 Calls Tryz.prog 38 #[.pointer (some ⟨g,0,none⟩),s.v] w (Put B g l (stsS L) w)
theorem block_step {N:Nat} (IH:WrS N):WrB (N+1):=by
 intro L hN hb hi ⟨A,n,c⟩ B g l w hK hS hlen;obtain ⟨H,hR,hE⟩:=hS;have hR:Rd sC 19 w B A n c H:=hR;have hn:H.length=n:=hR.1;have hnl:=hR.len_le;obtain ⟨T,hT⟩:∃ T,stsS L=T:=⟨_,rfl⟩;rw [hT] at hlen ⊢;have ST:=qh fun (q:Nat) (h:SH) (hq:H[q]?=some h)=>hE.at hq
 have CX:=qh fun (x:St) (q:Nat) (hx:L[q]?=some x)=>IH x (by have:=at_size hx;omega) (stsB_at' hb hx) (inSs_at hi hx)
 have HT:=qh hT;have HL:=qh hlen;have HR:=qh hR;have HE:=qh hE;have HN:=qh (And.intro hn (And.intro hnl hE.len));have K0:=qh hK;clear hR hlen hi hn hK hT hE hb hN IH;simp only [Sl.v];go_enter Tryz.func38,Tryz.ntmps38
 go_upto_region 1 with (fail)
 go_loopw [8] (fun s8 wr=>∃ (q:Nat) (t1:Str),q≤n∧s8=.int .i64 q∧t1++stsS (L.drop q)=T∧Wx B g (l++t1) wr∧Fr B g w wr) (fun i _=>n-(intOf i).toNat)
 case atStart=>exact ⟨0,[],Nat.zero_le _,rfl,by rw [List.drop_zero];exact HT.out,by rw [List.append_nil];exact K0.out,Fr.refl _ _ _⟩
 case round=>
  obtain ⟨q,t1,hq,rfl,ht,hk,hf⟩:=hrel;by_cases hlt:q<n
  rotate_left
  ·obtain rfl:q=n:=by omega
   have hz:¬ (q:Int)<q:=by omega
   rw [List.drop_of_length_le (by have:=HN.out;omega),stsS,List.append_nil] at ht;subst ht;have K9:=qh hk;have F9:=qh hf;clear hk hf;go_wp2_with fail
   go_end0
   exact ⟨rfl,K9.out,F9.out⟩
  have r1:Rd sC 19 wr B A n c H:=HR.out.below hf.1;obtain ⟨b1,o1,h,rfl,hb1,hp,hc1⟩:=r1.at hlt;obtain ⟨x,hx,hxa⟩:=ST.out q h hp;rw [drop_at hx,stsS] at ht;have hlx:(l++t1).length+(stS x).length≤lim:=by
   have h1:=HL.out;rw [←ht] at h1;simp only [List.length_append] at h1 ⊢;omega
  have ht2:(t1++stS x)++stsS (L.drop (q+1))=T:=by rw [List.append_assoc];exact ht
  have w1:=nat_step q (by omega);have hci:=qh hc1;have KK:=qh hk;have FF:=qh hf;have XA:=qh hxa;have HX:=qh hx;have HT2:=qh ht2;have HLX:=qh hlx;have LT:=qh hlt;clear hc1 hk hf hxa hx ht ht2 hlx r1 hp hb1;go_upto_region 3 with (first|((with_reducible refine m_loadR hci.out 49 10 ?_ ?_ ?_ ?_ ?_ ?_);rfl;rfl;rfl;rfl;kernel_rfl)|((with_reducible refine m_new 49 5 11 ?_ ?_ ?_ (sC h) ?_ ?_ ?_ ?_ (sC_one _) ?_);rfl;rfl;rfl;rfl;rfl;rfl;kernel_rfl;intro w4 hx hb hz))
  have X4:=qh hx;have K4:=qh (KK.out.below hb);have F4:=qh (FF.out.trans (Fr.of hb KK.out.le));clear hx hb hz hci KK FF hlt;go_wp2_with (first|((with_reducible refine m_load X4.out 49 5 ?_ ?_ ?_ ?_ ?_ ?_);rfl;rfl;rfl;rfl;kernel_rfl)|(go_at_call 63;fail))
  refine (CX.out x q HX.out h B g (l++t1) w4 K4.out (XA.out.below F4.out.1 (Nat.le_refl _)) HLX.out).mono ?_;rintro e w5 ⟨rfl,k9,f9⟩;rw [List.append_assoc] at k9;have K5:=qh k9;have F5:=qh (F4.out.trans f9);clear k9 f9 K4 F4 X4;go_wp2_with fail
  go_roundw
  case rel=>exact ⟨q+1,t1++stS x,by have:=LT.out;omega,by go_num,HT2.out,K5.out,F5.out⟩
  case measure=>have:=LT.out;simp [intOf];omega
def BlkC (x:List St):Prop:=∀ (s:Sl) (B g:Nat) (l:Str) (w:World),Wx B g l w→StL w B s x→l.length+(stsS x).length≤lim→Calls Tryz.prog 38 #[.pointer (some ⟨g,0,none⟩),s.v] w (Put B g l (stsS x) w)
theorem else_any {L:List (List St)} {s:Sl} {H:List Sl} {B g:Nat} {l:Str} {w:World} (hCX:∀ (x:List St) (q:Nat),L[q]?=some x→BlkC x) (hK:Wx B g l w) (hR:RS slC 1 w B s H) (hST:∀ (q:Nat) (h:Sl),H[q]?=some h→∃ x,L[q]?=some x∧StL w B h x) (hLH:H.length=L.length) (hlen:l.length+(elseT (blksS L)).length≤lim) :
  Calls Tryz.prog 128 #[.pointer (some ⟨g,0,none⟩),s.v] w (Put B g l (elseT (blksS L)) w):=by
 obtain ⟨A,n,c⟩:=s;have hR:Rd slC 1 w B A n c H:=hR;have hn:H.length=n:=hR.1;have hnl:=hR.len_le;obtain ⟨T,hT⟩:∃ T,elseT (blksS L)=T:=⟨_,rfl⟩;rw [hT] at hlen ⊢;have ST:=qh hST;have CX:=qh hCX;have HT:=qh hT;have HL:=qh hlen;have HR:=qh hR;have HN:=qh (And.intro hn (And.intro hnl hLH));have K0:=qh hK;clear hR hlen hn hK hT hST hCX;simp only [Sl.v];go_enter Tryz.func128,Tryz.ntmps128
 go_upto_region 1 with (fail)
 go_loopw [8] (fun s8 wr=>∃ (q:Nat) (t1:Str),q≤n∧s8=.int .i64 q∧t1++elseT (blksS (L.drop q))=T∧Wx B g (l++t1) wr∧Fr B g w wr) (fun i _=>n-(intOf i).toNat)
 case atStart=>exact ⟨0,[],Nat.zero_le _,rfl,by rw [List.drop_zero];exact HT.out,by rw [List.append_nil];exact K0.out,Fr.refl _ _ _⟩
 case round=>
  obtain ⟨q,t1,hq,rfl,ht,hk,hf⟩:=hrel;by_cases hlt:q<n
  rotate_left
  ·obtain rfl:q=n:=by omega
   have hz:¬ (q:Int)<q:=by omega
   rw [List.drop_of_length_le (by have:=HN.out;omega),blksS,elseT,List.append_nil] at ht;subst ht;have K9:=qh hk;have F9:=qh hf;clear hk hf;go_wp2_with fail
   go_end0
   exact ⟨rfl,K9.out,F9.out⟩
  have r1:Rd slC 1 wr B A n c H:=HR.out.below hf.1;obtain ⟨b1,o1,h,rfl,hb1,hp,hc1⟩:=r1.at hlt;obtain ⟨x,hx,hxa⟩:=ST.out q h hp;rw [drop_at hx,blksS,elseT] at ht;have ht2:(t1++([69,76,83,69,10]++stsS x))++elseT (blksS (L.drop (q+1)))=T:=by rw [List.append_assoc];exact ht
  have hlx:(l++t1).length+5+(stsS x).length≤lim:=by
   have h1:=HL.out;rw [←ht2] at h1;simp only [List.length_append,List.length_cons,List.length_nil] at h1 ⊢;omega
  have w1:=nat_step q (by omega);have a0:=hc1 0 _ rfl;rw [Nat.add_zero,Nat.mul_one] at a0;have P1:=qh (put_new [[69,76,83,69,10]] (t:=[69,76,83,69,10]) rfl hk (by decide) (by simp only [List.length_cons,List.length_nil];omega));have KK:=qh hk;have FF:=qh hf;have XA:=qh hxa;have HX:=qh hx;have HT2:=qh ht2;have HLX:=qh hlx;have LT:=qh hlt;unfold Sl.v at a0;clear hc1 hk hf hxa hx ht ht2 hlx r1 hp hb1;go_wp2_with (go_at_call 35;fail)
  refine P1.out.mono ?_;rintro e w4 ⟨rfl,k9,f9⟩;have K4:=qh k9;have F4:=qh (FF.out.trans f9);clear k9 f9 KK FF a0;have C2:=qh (CX.out x q HX.out h B g (l++t1++[69,76,83,69,10]) w4 K4.out (XA.out.below F4.out.1 (Nat.le_refl _)) (by have h9:=HLX.out;simp only [List.length_append,List.length_cons,List.length_nil] at h9 ⊢;omega));simp only [Sl.v] at C2;go_wp2_with (go_at_call 38;fail)
  refine C2.out.mono ?_;rintro e w5 ⟨rfl,k9,f9⟩;rw [List.append_assoc,List.append_assoc] at k9;have K5:=qh k9;have F5:=qh (F4.out.trans f9);clear k9 f9 K4 F4 C2;go_wp2_with fail
  go_roundw
  case rel=>exact ⟨q+1,t1++([69,76,83,69,10]++stsS x),by have:=LT.out;omega,by go_num,HT2.out,K5.out,F5.out⟩
  case measure=>have:=LT.out;simp [intOf];omega
end sh
end Go.Proofs.YtdefgghhkknnpaaGreatDoor
