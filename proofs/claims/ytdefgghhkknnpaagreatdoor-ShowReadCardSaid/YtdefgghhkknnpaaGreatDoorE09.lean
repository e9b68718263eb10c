/- The landed writer's expressions. Conditions: the expression is one that a text could give; what the writer holds stays within 2^47 bytes. The landed writer's expressions, whole. Conditions: the expression is one that a text could give; what the writer holds stays within 2^47 bytes. The landed writer's labels of a block. Conditions: the labels are pairs of numbers of 64 bits; what the writer holds stays within 2^47 bytes. The landed checks of labels, places, statements and blocks. Conditions: the library's variable MaxLen holds some number; the rows have room for one more. The landed count of a statement's parts. No condition but what each line says. -/
import Derived.Test.YtdefgghhkknnpaaGreatDoorE08
set_option linter.unusedVariables false
set_option linter.unusedSimpArgs false
set_option maxRecDepth 100000
set_option maxHeartbeats 40000000
namespace Go.Proofs.YtdefgghhkknnpaaGreatDoor
namespace sh
open ChangeShapes WideShapes ChangeAt RowKit k rr tk tr
theorem still_named {id:Nat} {Q:Exit→Act→World→Prop} {a:Act} {w:World} {l:List Oper} (n:Nat) (hB:Region.lexTailB .any l.toArray n=true)
  (h:∀ w2:World,(∀ p,w2.cell? p=w.cell? p)→(∀ p,w2.frozen? p=w.frozen? p)→(∀ B,Below B w w2)→w2.heap=w.heap→wpStill Tryz.prog l.toArray w2 (fun a'=>wpList Tryz.prog l.toArray Q (l.drop n) a' w2) (l.take n) a):(Code.region id l.toArray true).wp Tryz.prog Q a w:=
 wp_region_still_tail n (by kernel_rfl) hB (h _ (fun _=>rfl) (fun _=>rfl) (fun _=>(Below.refl _ _).drew) rfl)
structure Wx (B g:Nat) (l:Str) (w:World):Prop where
 wr:Wr B g l w
 le:B≤w.heap.size
 laid:Laid w
 gl:0<B
theorem laid_of {w w':World} {B:Nat} (h:Laid w) (hb:Below B w w') (hB:0<B):Laid w':=by
 unfold Laid Lib.TabIs World.var? at *;rw [gPow] at h ⊢;simp only [Option.bind_some] at h ⊢;rw [hb.block _ hB];exact h
theorem Wx.step {B g:Nat} {l l':Str} {w w':World} (h:Wx B g l w) (hw:Wr B g l' w') (hf:Fr B g w w'):Wx B g l' w':=⟨hw,Nat.le_trans h.le hf.2.2,laid_of h.laid hf.1 h.gl,h.gl⟩
theorem Wx.below {B g:Nat} {l:Str} {w w':World} (h:Wx B g l w) (hb:Below w.heap.size w w'):Wx B g l w':=⟨h.wr.below hb,Nat.le_trans h.le hb.size,laid_of h.laid (hb.mono h.le) h.gl,h.gl⟩
theorem Wx.drew {B g:Nat} {l:Str} {w w':World} (h:Wx B g l w) (hb:∀ B,Below B w w'):Wx B g l w':=h.below (hb _)
def Put (B g:Nat) (l t:Str) (w:World) (e:Ending) (w':World):Prop:=e=.returned (.tuple #[])∧Wx B g (l++t) w'∧Fr B g w w'
theorem put_new {B g:Nat} {l:Str} (L:List Str) {t:Str} (ht:L.flatten=t) {w:World} (h:Wx B g l w) (hm:L.length≤9) (hlen:l.length+t.length≤lim) :
  Calls Tryz.prog 35 #[.pointer (some ⟨g,0,none⟩),.slice (some ⟨w.heap.size,0,none⟩) L.length L.length] (w.alloc (.cells (L.map sv).toArray 9)) (Put B g l t w):=by
 subst ht;have hb:=al1 w (.cells (L.map sv).toArray 9);have h1:=h.below hb;refine (put_any h1.wr h1.le (Hb.new w (L.map sv) 9) (by have:=h.wr.lt;omega) hm hlen).mono ?_;rintro e w' ⟨rfl,hw,hf⟩;have hf1:Fr B g w w':=(Fr.of hb h.le).trans hf;exact ⟨rfl,h.step hw hf1,hf1⟩
theorem Put.more {B g:Nat} {l t t':Str} {w w1:World} {e:Ending} {w':World} (hf:Fr B g w w1) (h:Put B g (l++t) t' w1 e w'):Put B g l (t++t') w e w':=by
 obtain ⟨a,b,c⟩:=h;rw [List.append_assoc] at b;exact ⟨a,b,hf.trans c⟩
theorem Wx.box {B g:Nat} {l:Str} {w:World} (h:Wx B g l w) (vs:List Value) (T:TypeId):∃ w1,w.alloc (.cells vs.toArray T)=w1∧Wx B g l w1∧Hb w1 w.heap.size T vs∧Fr B g w w1∧w.heap.size≠g:=
 ⟨_,rfl,h.below (al1 _ _),Hb.new w vs T,Fr.of (al1 _ _) h.le,by have:=h.wr.lt;omega⟩
def WrE (N:Nat):Prop:=∀ x:Ex,SizeOf.sizeOf x<N→∀ (h:EH) (B g:Nat) (l:Str) (w:World),Wx B g l w→ExAt w B x h→exB x=true→l.length+(exS x).length≤lim →
 Calls Tryz.prog 99 #[.pointer (some ⟨g,0,none⟩),.agg (eC h).toArray] w (Put B g l (exS x) w)
def ArE (N:Nat):Prop:=∀ x:Ex,SizeOf.sizeOf x<N→∀ (h:EH) (B g:Nat) (l a b:Str) (w:World),Wx B g l w→ExAt w B x h→exB x=true→l.length+(a++exS x++b).length≤lim →
 Calls Tryz.prog 100 #[.pointer (some ⟨g,0,none⟩),sv a,.agg (eC h).toArray,sv b] w (Put B g l (a++exS x++b) w)
theorem around_step {N:Nat} (IH:WrE N):ArE N:=by
 intro x hN h B g l a b w hK hx hxb hlen;rw [List.length_append,List.length_append] at hlen;obtain ⟨w1,e1,K1,H1,F1,ng⟩:=hK.box (eC h) 44;have P1:=qh (put_new [a] (t:=a) (by simp) K1 (by simp) (by omega));have XX:=qh fun W (hf:Fr B g w W) (hW:Wx B g (l++a) W)=>IH x hN h B g (l++a) W hW (hx.below hf.1 (Nat.le_refl _)) hxb (by rw [List.length_append];omega)
 have P3:=qh fun W (hW:Wx B g (l++a++exS x) W)=>put_new [b] (t:=b) (by simp) hW (by simp) (by rw [List.length_append,List.length_append];omega)
 have F1:=qh F1;have H1:=qh H1;have NG:=qh ng;clear hK K1 hlen IH hx hxb hN ng;go_enter Tryz.func100,Tryz.ntmps100
 go_upto_region 1 with (fail)
 unfold sv;subst e1;generalize w.alloc (.cells (eC h).toArray 44)=w1 at *;go_wp2_with (go_at_call 35;fail)
 refine P1.out.mono ?_;rintro e w2 ⟨rfl,k2,f2⟩;have K2:=qh k2;have F2:=qh (F1.out.trans f2);have H2:=qh (H1.out.fr f2 NG.out (by decide));clear k2 f2 P1 F1 H1;go_wp2_with (first|((with_reducible refine m_load H2.out.box 44 6 ?_ ?_ ?_ ?_ ?_ ?_);rfl;rfl;rfl;rfl;kernel_rfl)|(go_at_call 99;fail))
 refine (XX.out _ F2.out K2.out).mono ?_;rintro e w3 ⟨rfl,k3,f3⟩;have K3:=qh k3;have F3:=qh (F2.out.trans f3);clear k3 f3 XX K2 F2 H2;go_wp2_with (go_at_call 35;fail)
 refine (P3.out _ K3.out).mono ?_;rintro e w4 ⟨rfl,k4,f4⟩;have K4:=qh k4;have F4:=qh (F3.out.trans f4);clear k4 f4 P3 K3 F3;go_wp2_with fail
 go_end0
 exact ⟨rfl,by have:=K4.out;simpa only [List.append_assoc] using this,F4.out⟩
theorem exS_1 (n:Int) (s f:Str) (sub:List Ex) (ln:Int):exS (.mk 1 n s f sub ln)=numS n:=by rw [exS,exT,if_pos rfl]
theorem exS_2 (n:Int) (s f:Str) (sub:List Ex) (ln:Int):exS (.mk 2 n s f sub ln)=truthS n:=by rw [exS,exT,if_neg (by decide),if_pos rfl]
theorem exS_3 (n:Int) (s f:Str) (sub:List Ex) (ln:Int):exS (.mk 3 n s f sub ln)=s:=by rw [exS,exT,if_neg (by decide),if_neg (by decide),if_pos rfl]
theorem exS_4 (n:Int) (s f:Str) (y:Ex) (ln:Int):exS (.mk 4 n s f [y] ln)=s++[91]++exS y++[93]:=by
 rw [exS,exsS,exsS,exT,if_neg (by decide),if_neg (by decide),if_neg (by decide),if_pos rfl];rfl
theorem exS_5 (n:Int) (s f:Str) (sub:List Ex) (ln:Int):exS (.mk 5 n s f sub ln)=s++[46]++f:=by
 rw [exS,exT,if_neg (by decide),if_neg (by decide),if_neg (by decide),if_neg (by decide),if_pos rfl]
theorem exS_6 (n:Int) (s f:Str) (y:Ex) (ln:Int):exS (.mk 6 n s f [y] ln)=[40,45]++exS y++[41]:=by
 rw [exS,exsS,exsS,exT,if_neg (by decide),if_neg (by decide),if_neg (by decide),if_neg (by decide),if_neg (by decide),if_pos rfl];rfl
theorem exS_7 (n:Int) (s f:Str) (y:Ex) (ln:Int):exS (.mk 7 n s f [y] ln)=[40,78,79,84,32]++exS y++[41]:=by
 rw [exS,exsS,exsS,exT,if_neg (by decide),if_neg (by decide),if_neg (by decide),if_neg (by decide),if_neg (by decide),if_neg (by decide),if_pos rfl];rfl
theorem exS_8 {op:Int} (h:8≤op) (n:Int) (s f:Str) (y z:Ex) (ln:Int):exS (.mk op n s f [y,z] ln)=[40]++exS y++([32]++opS op++[32])++exS z++[41]:=by
 rw [exS,exsS,exsS,exsS,exT,if_neg (by omega),if_neg (by omega),if_neg (by omega),if_neg (by omega),if_neg (by omega),if_neg (by omega),if_neg (by omega)];rfl
theorem nm_len {s:Str} (h:nmB s=true):s.length≤16:=(nm_sgn h).2.2.2
theorem cat_sv (a b:Str):(⟨a.toArray⟩:ByteArray)++⟨b.toArray⟩=⟨(a++b).toArray⟩:=by
 apply ByteArray.ext
 apply Array.toList_inj.1
 simp
theorem sz_sv (a:Str):(⟨a.toArray⟩:ByteArray).size=a.length:=rfl
theorem sub_one {w:World} {B:Nat} {s:Sl} {sub:List Ex} (h:ExL w B s sub) (hl:sub.length=1):∃ y h0 b o,sub=[y]∧ExAt w B y h0∧s.A=some ⟨b,o,none⟩∧b<B∧w.rangeAt b o (eC h0)∧s.l=1:=by
 obtain ⟨H,h1,h2⟩:=h
 match sub,hl with
 | [y],_=>
  have hls:s.l=1:=by have:=h2.len;rw [←h1.1,this];rfl
  obtain ⟨b,o,h0,hA,hb,hp,hc⟩:=Rd.at h1 (i:=0) (by omega);obtain ⟨y',hy,hy2⟩:=h2.at hp;obtain rfl:y=y':=by simpa using hy
  rw [Nat.zero_mul,Nat.add_zero] at hc;exact ⟨y,h0,b,o,rfl,hy2,hA,hb,hc,hls⟩
theorem sub_two {w:World} {B:Nat} {s:Sl} {sub:List Ex} (h:ExL w B s sub) (hl:sub.length=2):∃ y z h0 h1 b o,sub=[y,z]∧ExAt w B y h0∧ExAt w B z h1∧s.A=some ⟨b,o,none⟩∧b<B∧w.rangeAt b o (eC h0)∧w.rangeAt b (o+6) (eC h1)∧s.l=2:=by
 obtain ⟨H,h1,h2⟩:=h
 match sub,hl with
 | [y,z],_=>
  have hls:s.l=2:=by have:=h2.len;rw [←h1.1,this];rfl
  obtain ⟨b,o,h0,hA,hb,hp,hc⟩:=Rd.at h1 (i:=0) (by omega);obtain ⟨y',hy,hy2⟩:=h2.at hp;obtain rfl:y=y':=by simpa using hy
  obtain ⟨b',o',k0,hA',hb',hp',hc'⟩:=Rd.at h1 (i:=1) (by omega);obtain ⟨z',hz,hz2⟩:=h2.at hp';obtain rfl:z=z':=by simpa using hz
  rw [hA] at hA';injection hA' with hA'
  injection hA' with e1 e2 _
  subst e1 e2;rw [Nat.zero_mul,Nat.add_zero] at hc;rw [Nat.one_mul] at hc';exact ⟨y,z,h0,k0,b,o,rfl,hy2,hz2,hA,hb,hc,hc',hls⟩
theorem range_cells {w:World} {b o:Nat} {h:EH} (hc:w.rangeAt b o (eC h)):w.cell? ⟨b,o,none⟩=some (.int .i64 h.op)∧w.cell? ⟨b,o+1,none⟩=some (.int .i64 h.n)∧w.cell? ⟨b,o+2,none⟩=some (sv h.name)∧w.cell? ⟨b,o+3,none⟩=some (sv h.field)∧w.cell? ⟨b,o+4,none⟩=some h.sub.v∧w.cell? ⟨b,o+5,none⟩=some (.int .i64 h.line):=
 ⟨hc 0 _ rfl,hc 1 _ rfl,hc 2 _ rfl,hc 3 _ rfl,hc 4 _ rfl,hc 5 _ rfl⟩
theorem expr_step {N:Nat} (IH:ArE N):WrE (N+1):=by
 unfold WrE;intro x hN h B g l w hK hx hxb hlen;obtain ⟨xo,xn,xs,xf,xsub,xl⟩:=x;obtain ⟨o,n,s,f,⟨A,sl,c⟩,ln⟩:=h;unfold ExAt at hx;obtain ⟨rfl,rfl,rfl,rfl,rfl,H,hR,hE⟩:=hx;have hx:ExL w B ⟨A,sl,c⟩ xsub:=⟨H,hR,hE⟩;have hxb:exB (.mk o n s f xsub ln)=true:=hxb;have hlen:l.length+(exS (.mk o n s f xsub ln)).length≤lim:=hlen
 show Calls _ _ _ _ (Put B g l (exS (.mk o n s f xsub ln)) w)
 rw [exB,Bool.and_eq_true] at hxb;obtain ⟨hok,hsb⟩:=hxb;unfold exOk at hok;simp only [Bool.and_eq_true,decide_eq_true_eq,beq_iff_eq] at hok;obtain ⟨⟨o1,o2⟩,n0,n1,hnm,hfd,hsl⟩:=hok;have hsz:SizeOf.sizeOf xsub≤N:=by
  simp only [Ex.mk.sizeOf_spec] at hN;omega
 obtain ⟨w1,e1,K1,H1,F1,ng⟩:=hK.box (eC ⟨o,n,s,f,⟨A,sl,c⟩,ln⟩) 44;have NG:=qh ng;have K1:=qh K1;have H1:=qh H1;have F1:=qh F1;clear hK ng hR hE hN;simp only [eC,sv,Sl.v] at e1 ⊢;rcases (show o=1∨o=2∨o=3∨o=4∨o=5∨o=6∨o=7∨8≤o by omega) with rfl|rfl|rfl|rfl|rfl|rfl|rfl|h8
 ·rw [exS_1] at hlen ⊢
  have HL:=qh hlen;have hn:InI n:=⟨by omega,by have:=n1;rw [mostE,if_pos rfl] at this;omega⟩;clear IH hx hsb hnm hfd hsl o1 o2 n0 n1 hlen hsz;have HN:=qh hn;clear hn;go_enter Tryz.func99,Tryz.ntmps99
  go_upto_region 1 with (fail)
  subst e1;generalize w.alloc (.cells #[.int .i64 1,.int .i64 n,.string ⟨s.toArray⟩,.string ⟨f.toArray⟩,.slice A sl c,.int .i64 ln] 44)=w1 at *;have ⟨c0,_,c1,_,c2,_,c3,_,c4,_,_⟩:=H1.out.box;simp only [sv,Sl.v] at c2 c3 c4;go_wp2_with (go_at_call 60;fail)
  refine (decimal_any n HN.out _ K1.out.laid).mono ?_;rintro e w2 ⟨rfl,hb⟩;have K2:=qh (K1.out.below hb);have F2:=qh (F1.out.trans (Fr.of hb K1.out.le));clear hb c0 c1 c2 c3 c4 K1 F1 H1;unfold sv;go_wp2_with (go_at_call 35;fail)
  refine (put_new [numS n] (t:=numS n) (by simp) K2.out (by simp) HL.out).mono ?_;rintro e w3 ⟨rfl,k9,f9⟩;have K9:=qh k9;have F9:=qh (F2.out.trans f9);clear k9 f9;go_wp2_with fail
  go_end0
  exact ⟨rfl,K9.out,F9.out⟩
 ·rw [exS_2] at hlen ⊢
  have HL:=qh hlen;clear IH hx hsb hnm hfd hsl o1 o2 n0 n1 hlen hsz;go_enter Tryz.func99,Tryz.ntmps99
  go_upto_region 1 with (fail)
  subst e1;generalize w.alloc (.cells #[.int .i64 2,.int .i64 n,.string ⟨s.toArray⟩,.string ⟨f.toArray⟩,.slice A sl c,.int .i64 ln] 44)=w1 at *;have ⟨c0,_,c1,_,c2,_,c3,_,c4,_,_⟩:=H1.out.box;simp only [sv,Sl.v] at c2 c3 c4;go_wp2_with (go_at_call 61;fail)
  refine (truth_any n _).mono ?_;rintro e w2 ⟨rfl,rfl⟩;unfold sv;go_wp2_with (go_at_call 35;fail)
  refine (put_new [truthS n] (t:=truthS n) (by simp) K1.out (by simp) HL.out).mono ?_;rintro e w3 ⟨rfl,k9,f9⟩;have K9:=qh k9;have F9:=qh (F1.out.trans f9);clear k9 f9;go_wp2_with fail
  go_end0
  exact ⟨rfl,K9.out,F9.out⟩
 ·rw [exS_3] at hlen ⊢
  have HL:=qh hlen;clear IH hx hsb hnm hfd hsl o1 o2 n0 n1 hlen hsz;go_enter Tryz.func99,Tryz.ntmps99
  go_upto_region 1 with (fail)
  subst e1;generalize w.alloc (.cells #[.int .i64 3,.int .i64 n,.string ⟨s.toArray⟩,.string ⟨f.toArray⟩,.slice A sl c,.int .i64 ln] 44)=w1 at *;have ⟨c0,_,c1,_,c2,_,c3,_,c4,_,_⟩:=H1.out.box;simp only [sv,Sl.v] at c2 c3 c4;go_wp2_with (go_at_call 35;fail)
  refine (put_new [s] (t:=s) (by simp) K1.out (by simp) HL.out).mono ?_;rintro e w3 ⟨rfl,k9,f9⟩;have K9:=qh k9;have F9:=qh (F1.out.trans f9);clear k9 f9;go_wp2_with fail
  go_end0
  exact ⟨rfl,K9.out,F9.out⟩
 ·have hl1:xsub.length=1:=hsl
  obtain ⟨y,⟨yo,yn,ys,yf,⟨yA,yl,yc⟩,yln⟩,b0,o0,rfl,hy,hA,hb0,hr0,hsl1⟩:=sub_one hx hl1;simp only at hA hsl1;subst hA hsl1;have hyb:exB y=true:=by rw [exsB,exsB,Bool.and_true] at hsb;exact hsb
  have hys:SizeOf.sizeOf y<N:=by have:=hsz;simp only [List.cons.sizeOf_spec] at this;omega
  rw [exS_4] at hlen ⊢;have AR:=qh fun W (hf:Fr B g w W) (hW:Wx B g l W)=>IH y hys ⟨yo,yn,ys,yf,⟨yA,yl,yc⟩,yln⟩ B g l (s++[91]) [93] W hW (hy.below hf.1 (Nat.le_refl _)) hyb hlen
  have RR:=qh fun W (hf:Fr B g w W)=>range_below hr0 hf.1 hb0
  have hcat0:¬ 9223372036854775807<(⟨s.toArray⟩:ByteArray).size+1:=by rw [sz_sv];have:=nm_len (show nmB s=true from hnm);omega
  clear IH hx hsb hnm hfd hsl o1 o2 n0 n1 hlen hsz hy hyb hys hr0 hl1;obtain ⟨xs,hxs⟩:∃ z,(⟨s.toArray⟩:ByteArray)=z:=⟨_,rfl⟩;have HX:=qh hxs;rw [hxs] at e1 hcat0 ⊢;clear hxs;go_enter Tryz.func99,Tryz.ntmps99
  go_upto_region 1 with (fail)
  subst e1;generalize w.alloc (.cells #[.int .i64 4,.int .i64 n,.string xs,.string ⟨f.toArray⟩,.slice (some ⟨b0,o0,none⟩) 1 c,.int .i64 ln] 44)=w1 at *;have ⟨c0,_,c1,_,c2,_,c3,_,c4,_,_⟩:=H1.out.box;simp only [sv,Sl.v] at c2 c3 c4;rw [HX.out] at c2;go_upto_region 11 with (fail)
  have ⟨r0,r1,r2,r3,r4,r5⟩:=range_cells (RR.out _ F1.out);simp only [sv,Sl.v] at r2 r3 r4;refine still_named 8 (by kernel_rfl) ?_;intro w2 hc2 _ hb2 _;rw [←hc2] at c0 c1 c2 c3 c4 r0 r1 r2 r3 r4 r5;have K2:=qh (K1.out.drew hb2);have F2:=qh (F1.out.trans (Fr.of (hb2 _) K1.out.le));clear hc2 hb2 K1 F1 RR H1;simp only [List.take_succ_cons,List.take_zero,List.drop_succ_cons,List.drop_zero];repeat still_step
  refine wpStill_nil ?_;rw [show xs++⟨#[91]⟩=⟨(s++[91]).toArray⟩ by rw [←HX.out];exact cat_sv s [91]];go_wp2_with (go_at_call 100;fail)
  refine (AR.out _ F2.out K2.out).mono ?_;rintro e w3 ⟨rfl,k9,f9⟩;have K9:=qh k9;have F9:=qh (F2.out.trans f9);clear k9 f9;go_wp2_with fail
  go_end0
  exact ⟨rfl,K9.out,F9.out⟩
 ·rw [exS_5] at hlen ⊢
  have HL:=qh hlen;clear IH hx hsb hnm hfd hsl o1 o2 n0 n1 hlen hsz;go_enter Tryz.func99,Tryz.ntmps99
  go_upto_region 1 with (fail)
  subst e1;generalize w.alloc (.cells #[.int .i64 5,.int .i64 n,.string ⟨s.toArray⟩,.string ⟨f.toArray⟩,.slice A sl c,.int .i64 ln] 44)=w1 at *;have ⟨c0,_,c1,_,c2,_,c3,_,c4,_,_⟩:=H1.out.box;simp only [sv,Sl.v] at c2 c3 c4;go_wp2_with (go_at_call 35;fail)
  refine (put_new [s,[46],f] (t:=s++[46]++f) (by simp) K1.out (by simp) HL.out).mono ?_;rintro e w3 ⟨rfl,k9,f9⟩;have K9:=qh k9;have F9:=qh (F1.out.trans f9);clear k9 f9;go_wp2_with fail
  go_end0
  exact ⟨rfl,K9.out,F9.out⟩
 ·have hl1:xsub.length=1:=hsl
  obtain ⟨y,⟨yo,yn,ys,yf,⟨yA,yl,yc⟩,yln⟩,b0,o0,rfl,hy,hA,hb0,hr0,hsl1⟩:=sub_one hx hl1;simp only at hA hsl1;subst hA hsl1;have hyb:exB y=true:=by rw [exsB,exsB,Bool.and_true] at hsb;exact hsb
  have hys:SizeOf.sizeOf y<N:=by have:=hsz;simp only [List.cons.sizeOf_spec] at this;omega
  rw [exS_6] at hlen ⊢;have AR:=qh fun W (hf:Fr B g w W) (hW:Wx B g l W)=>IH y hys ⟨yo,yn,ys,yf,⟨yA,yl,yc⟩,yln⟩ B g l [40,45] [41] W hW (hy.below hf.1 (Nat.le_refl _)) hyb hlen
  have RR:=qh fun W (hf:Fr B g w W)=>range_below hr0 hf.1 hb0
  clear IH hx hsb hnm hfd hsl o1 o2 n0 n1 hlen hsz hy hyb hys hr0 hl1;go_enter Tryz.func99,Tryz.ntmps99
  go_upto_region 1 with (fail)
  subst e1;generalize w.alloc (.cells #[.int .i64 6,.int .i64 n,.string ⟨s.toArray⟩,.string ⟨f.toArray⟩,.slice (some ⟨b0,o0,none⟩) 1 c,.int .i64 ln] 44)=w1 at *;have ⟨c0,_,c1,_,c2,_,c3,_,c4,_,_⟩:=H1.out.box;simp only [sv,Sl.v] at c2 c3 c4;have R1:=qh (RR.out _ F1.out);go_wp2_with (first|((with_reducible refine m_loadR R1.out 44 71 ?_ ?_ ?_ ?_ ?_ ?_);rfl;rfl;rfl;rfl;kernel_rfl)|(go_at_call 100;fail))
  refine (AR.out _ F1.out K1.out).mono ?_;rintro e w3 ⟨rfl,k9,f9⟩;have K9:=qh k9;have F9:=qh (F1.out.trans f9);clear k9 f9;go_wp2_with fail
  go_end0
  exact ⟨rfl,K9.out,F9.out⟩
 ·have hl1:xsub.length=1:=hsl
  obtain ⟨y,⟨yo,yn,ys,yf,⟨yA,yl,yc⟩,yln⟩,b0,o0,rfl,hy,hA,hb0,hr0,hsl1⟩:=sub_one hx hl1;simp only at hA hsl1;subst hA hsl1;have hyb:exB y=true:=by rw [exsB,exsB,Bool.and_true] at hsb;exact hsb
  have hys:SizeOf.sizeOf y<N:=by have:=hsz;simp only [List.cons.sizeOf_spec] at this;omega
  rw [exS_7] at hlen ⊢;have AR:=qh fun W (hf:Fr B g w W) (hW:Wx B g l W)=>IH y hys ⟨yo,yn,ys,yf,⟨yA,yl,yc⟩,yln⟩ B g l [40,78,79,84,32] [41] W hW (hy.below hf.1 (Nat.le_refl _)) hyb hlen
  have RR:=qh fun W (hf:Fr B g w W)=>range_below hr0 hf.1 hb0
  clear IH hx hsb hnm hfd hsl o1 o2 n0 n1 hlen hsz hy hyb hys hr0 hl1;go_enter Tryz.func99,Tryz.ntmps99
  go_upto_region 1 with (fail)
  subst e1;generalize w.alloc (.cells #[.int .i64 7,.int .i64 n,.string ⟨s.toArray⟩,.string ⟨f.toArray⟩,.slice (some ⟨b0,o0,none⟩) 1 c,.int .i64 ln] 44)=w1 at *;have ⟨c0,_,c1,_,c2,_,c3,_,c4,_,_⟩:=H1.out.box;simp only [sv,Sl.v] at c2 c3 c4;have R1:=qh (RR.out _ F1.out);go_wp2_with (first|((with_reducible refine m_loadR R1.out 44 79 ?_ ?_ ?_ ?_ ?_ ?_);rfl;rfl;rfl;rfl;kernel_rfl)|(go_at_call 100;fail))
  refine (AR.out _ F1.out K1.out).mono ?_;rintro e w3 ⟨rfl,k9,f9⟩;have K9:=qh k9;have F9:=qh (F1.out.trans f9);clear k9 f9;go_wp2_with fail
  go_end0
  exact ⟨rfl,K9.out,F9.out⟩
 ·have hl2:xsub.length=2:=by
   rw [hsl];unfold subsE;rw [if_neg (by omega),if_pos h8]
  obtain ⟨y,z,⟨yo,yn,ys,yf,⟨yA,yl,yc⟩,yln⟩,⟨zo,zn,zs,zf,⟨zA,zl,zc⟩,zln⟩,b0,o0,rfl,hy,hz,hA,hb0,hr0,hr1,hsl2⟩:=sub_two hx hl2;simp only at hA hsl2;subst hA hsl2;have hyzb:exB y=true∧exB z=true:=by rw [exsB,exsB,exsB,Bool.and_true,Bool.and_eq_true] at hsb;exact hsb
  have hyzs:SizeOf.sizeOf y<N∧SizeOf.sizeOf z<N:=by have:=hsz;simp only [List.cons.sizeOf_spec] at this;omega
  rw [exS_8 h8] at hlen ⊢;obtain ⟨T,hT⟩:∃ T,[32]++opS o++[32]=T:=⟨_,rfl⟩;rw [hT] at hlen ⊢;have HT:=qh hT;have hop:(opS o).length≤3:=by
   rcases (show o=8∨o=9∨o=10∨o=11∨o=12∨o=13∨o=14∨o=15∨o=16∨o=17∨o=18∨o=19∨o=20∨o=21 by omega) with rfl|rfl|rfl|rfl|rfl|rfl|rfl|rfl|rfl|rfl|rfl|rfl|rfl|rfl<;>decide
  simp only [List.length_append] at hlen;have A1:=qh fun W (hf:Fr B g w W) (hW:Wx B g l W)=>IH y hyzs.1 ⟨yo,yn,ys,yf,⟨yA,yl,yc⟩,yln⟩ B g l [40] T W hW (hy.below hf.1 (Nat.le_refl _)) hyzb.1 (by simp only [List.length_append];omega)
  have A2:=qh fun W (hf:Fr B g w W) (hW:Wx B g (l++([40]++exS y++T)) W)=>IH z hyzs.2 ⟨zo,zn,zs,zf,⟨zA,zl,zc⟩,zln⟩ B g (l++([40]++exS y++T)) [] [41] W hW (hz.below hf.1 (Nat.le_refl _)) hyzb.2 (by simp only [List.length_append,List.length_nil];omega)
  have R0:=qh fun W (hf:Fr B g w W)=>range_below hr0 hf.1 hb0
  have R1:=qh fun W (hf:Fr B g w W)=>range_below hr1 hf.1 hb0
  have SG:=qh fun W=>signOf_any o W
  unfold sv at SG;have hcat1:¬ 9223372036854775807<1+(⟨(opS o).toArray⟩:ByteArray).size:=by rw [sz_sv];omega
  have hcat2:¬ 9223372036854775807<1+(⟨(opS o).toArray⟩:ByteArray).size+1:=by rw [sz_sv];omega
  obtain ⟨xo,hxo⟩:∃ z,(⟨(opS o).toArray⟩:ByteArray)=z:=⟨_,rfl⟩;have hcat3:¬ 9223372036854775807<((⟨#[32]⟩:ByteArray)++xo).size+1:=by rw [←hxo,show (⟨#[32]⟩:ByteArray)++⟨(opS o).toArray⟩=⟨([32]++opS o).toArray⟩ from cat_sv [32] (opS o),sz_sv,List.length_append];simp;omega
  have HX:=qh hxo;rw [hxo] at SG hcat1 hcat2;have z1:=neb (show o≠1 by omega);have z2:=neb (show o≠2 by omega);have z3:=neb (show o≠3 by omega);have z4:=neb (show o≠4 by omega);have z5:=neb (show o≠5 by omega);have z6:=neb (show o≠6 by omega);have z7:=neb (show o≠7 by omega);clear IH hx hsb hnm hfd hsl o1 o2 n0 n1 hlen hsz hy hz hyzb hyzs hr0 hr1 hl2 hT hxo hop h8;go_enter Tryz.func99,Tryz.ntmps99
  go_upto_region 1 with (fail)
  subst e1;generalize w.alloc (.cells #[.int .i64 o,.int .i64 n,.string ⟨s.toArray⟩,.string ⟨f.toArray⟩,.slice (some ⟨b0,o0,none⟩) 2 c,.int .i64 ln] 44)=w1 at *;have ⟨c0,_,c1,_,c2,_,c3,_,c4,_,_⟩:=H1.out.box;simp only [sv,Sl.v] at c2 c3 c4;go_upto_region 2 with (fail)
  clear z1 z2 z3 z4 z5 z6 z7;have ⟨r0,r1,r2,r3,r4,r5⟩:=range_cells (R0.out _ F1.out);simp only [sv,Sl.v] at r2 r3 r4;refine still_named 10 (by kernel_rfl) ?_;intro w2 hc2 _ hb2 _;rw [←hc2] at c0 c1 c2 c3 c4 r0 r1 r2 r3 r4 r5;have K2:=qh (K1.out.drew hb2);have F2:=qh (F1.out.trans (Fr.of (hb2 _) K1.out.le));have H2:=qh (H1.out.fr (Fr.of (hb2 _) K1.out.le) NG.out (by decide));clear hc2 hb2 K1 F1 R0 H1;simp only [List.take_succ_cons,List.take_zero,List.drop_succ_cons,List.drop_zero];repeat still_step
  refine wpStill_step (fun K hK=>?_);go_simp;refine ⟨.string xo,(SG.out w2).mono fun _ _ h=>⟨h.1,h.2⟩,hK _ ?_⟩;clear hK K;repeat still_step
  refine wpStill_nil ?_;rw [show (⟨#[32]⟩:ByteArray)++xo++⟨#[32]⟩=⟨T.toArray⟩ by rw [←HX.out,←HT.out,show (⟨#[32]⟩:ByteArray)++⟨(opS o).toArray⟩=⟨([32]++opS o).toArray⟩ from cat_sv [32] (opS o)];exact cat_sv ([32]++opS o) [32]];clear hcat1 hcat2 hcat3 r0 r1 r2 r3 r4 r5 c0 c1 c2 c3 c4;go_wp2_with (go_at_call 100;fail)
  refine (A1.out _ F2.out K2.out).mono ?_;rintro e w3 ⟨rfl,k3,f3⟩;have K3:=qh k3;have F3:=qh (F2.out.trans f3);have H3:=qh (H2.out.fr f3 NG.out (by decide));clear k3 f3 A1 F2 K2 H2;have ⟨c0,_,c1,_,c2,_,c3,_,c4,_,_⟩:=H3.out.box;simp only [sv,Sl.v] at c2 c3 c4;have R3:=qh (R1.out _ F3.out);go_wp2_with (first|((with_reducible refine m_loadR R3.out 44 20 ?_ ?_ ?_ ?_ ?_ ?_);rfl;rfl;rfl;rfl;kernel_rfl)|(go_at_call 100;fail))
  refine (A2.out _ F3.out K3.out).mono ?_;rintro e w4 ⟨rfl,k4,f4⟩;have K9:=qh k4;have F9:=qh (F3.out.trans f4);clear k4 f4 A2 F3 K3 H3;go_wp2_with fail
  go_end0
  exact ⟨rfl,by have h9:=K9.out;simp only [List.append_assoc,List.nil_append,List.cons_append,List.singleton_append] at h9 ⊢;exact h9,F9.out⟩
theorem expr_all:∀ N,WrE N
 | 0=>fun _ h=>absurd h (by omega)
 | N+1=>expr_step (around_step (expr_all N))
theorem around_any {x:Ex} {h:EH} {B g:Nat} {l a b:Str} {w:World} (hK:Wx B g l w) (hx:ExAt w B x h) (hxb:exB x=true) (hlen:l.length+(a++exS x++b).length≤lim) :
  Calls Tryz.prog 100 #[.pointer (some ⟨g,0,none⟩),sv a,.agg (eC h).toArray,sv b] w (Put B g l (a++exS x++b) w):=
 around_step (expr_all (SizeOf.sizeOf x+1)) x (by omega) h B g l a b w hK hx hxb hlen
theorem expr_any {x:Ex} {h:EH} {B g:Nat} {l:Str} {w:World} (hK:Wx B g l w) (hx:ExAt w B x h) (hxb:exB x=true) (hlen:l.length+(exS x).length≤lim) :
  Calls Tryz.prog 99 #[.pointer (some ⟨g,0,none⟩),.agg (eC h).toArray] w (Put B g l (exS x) w):=
 expr_all (SizeOf.sizeOf x+1) x (by omega) h B g l w hK hx hxb hlen
theorem drop_two {L:List Int} {q:Nat} (h:q+1<L.length):∃ a b,L.drop q=a::b::L.drop (q+2)∧L[q]?=some a∧L[q+1]?=some b:=by
  refine ⟨L[q],L[q+1],?_,List.getElem?_eq_getElem _,List.getElem?_eq_getElem _⟩;rw [List.drop_eq_getElem_cons (by omega),List.drop_eq_getElem_cons h]
theorem row_cell {w:World} {B:Nat} {A:Option Addr} {n c:Nat} {L:List Int} (h:Rd iC 1 w B A n c L) {q:Nat} {a:Int} (hq:L[q]?=some a):∃ b o,A=some ⟨b,o,none⟩∧b<B∧w.cell? ⟨b,o+q,none⟩=some (.int .i64 a):=by
  obtain ⟨b,o,x,hA,hb,hp,hc⟩:=h.at (i:=q) (by rw [←h.1];exact (List.getElem?_eq_some_iff.1 hq).1);obtain rfl:a=x:=by simpa [hq] using hp
  have:=hc 0 _ rfl;rw [Nat.add_zero,Nat.mul_one] at this;exact ⟨b,o,hA,hb,this⟩
theorem meas2 {q n:Nat} (h:q<n) (hw:wrap64 ((q:Int)+2)=((q+2:Nat):Int)):n-(intOf (.int .i64 (wrap64 ((q:Int)+2)))).toNat<n-(intOf (.int .i64 (q:Int))).toNat∧n-(intOf (.int .i64 ((q:Int)+2))).toNat<n-(intOf (.int .i64 (q:Int))).toNat:=by
  rw [hw];simp only [intOf];omega
theorem labels_any {B g:Nat} {l:Str} {L:List Int} {s:Sl} {w:World} (hK:Wx B g l w) (hR:RS iC 1 w B s L) (h2:L.length % 2=0) (hi:∀ n∈L,InI n) (hlen:l.length+(labT false L).length≤lim) :
    Calls Tryz.prog 129 #[.pointer (some ⟨g,0,none⟩),s.v] w (Put B g l (labT false L) w):=by
  obtain ⟨A,n,c⟩:=s;have hR:Rd iC 1 w B A n c L:=hR;have hn:L.length=n:=hR.1;have hnl:=hR.len_le;obtain ⟨T,hT⟩:∃ T,labT false L=T:=⟨_,rfl⟩;rw [hT] at hlen ⊢;have HT:=qh hT;have HL:=qh hlen;have HR:=qh hR;have HI:=qh hi;have HN:=qh (And.intro hn (And.intro h2 hnl));have K0:=qh hK;clear hR hlen hi hn h2 hK hT;simp only [Sl.v];go_enter Tryz.func129,Tryz.ntmps129
  go_upto_region 1 with (fail)
  go_loopw [4] (fun s4 wr=>∃ (q:Nat) (t1:Str),q≤n∧q % 2=0∧s4=.int .i64 q∧t1++labT (decide (0<q)) (L.drop q)=T∧Wx B g (l++t1) wr∧Fr B g w wr) (fun i _=>n-(intOf i).toNat)
  case atStart=>exact ⟨0,[],Nat.zero_le _,rfl,rfl,by rw [List.drop_zero];exact HT.out,by rw [List.append_nil];exact K0.out,Fr.refl _ _ _⟩
  case round=>
    obtain ⟨q,t1,hq,hq2,rfl,ht,hk,hf⟩:=hrel;by_cases hlt:q<n
    rotate_left
    · obtain rfl:q=n:=by omega
      have hz:¬ (q:Int)<q:=by omega
      rw [List.drop_of_length_le (by rw [HN.out.1];exact Nat.le_refl _)] at ht;have ht:t1++[58,10]=T:=by
        rw [←ht];cases decide (0<q)<;>rfl
      have P1:=qh (put_new [[58,10]] (t:=[58,10]) rfl hk (by decide) (by have:=HL.out;rw [←ht,List.length_append] at this;rw [List.length_append];omega));have FF:=qh hf;have HTT:=qh ht;clear hk hf ht;go_wp2_with (go_at_call 35;fail)
      refine P1.out.mono ?_;rintro e w3 ⟨rfl,k9,f9⟩;have K9:=qh k9;have F9:=qh (FF.out.trans f9);clear k9 f9 P1;go_wp2_with fail
      go_end0
      exact ⟨rfl,by have:=K9.out;rw [List.append_assoc,HTT.out] at this;exact this,F9.out⟩
    have hq1:q+1<L.length:=by have:=HN.out.2.1;have:=HN.out.1;omega
    obtain ⟨a,b,hd,ha,hb⟩:=drop_two hq1;have ia:=qh (HI.out a (List.mem_of_getElem? ha));have ib:=qh (HI.out b (List.mem_of_getElem? hb));obtain ⟨b1,o1,rfl,hbB,ca⟩:=row_cell HR.out ha;obtain ⟨b2,o2,e2,_,cb⟩:=row_cell HR.out hb;injection e2 with e2
    injection e2 with e3 e4 _
    subst e3 e4;rw [hd] at ht;have hlq:(q:Int)+2≤9223372036854775807:=by have:=HN.out.2.2;have:=HN.out.1;omega
    have w1:IntKind.i64.wrap ((q:Int)+1)=((q+1:Nat):Int):=by rw [IntKind.wrap_i64];omega
    have w2':wrap64 ((q:Int)+1)=((q+1:Nat):Int):=by unfold wrap64;omega
    have w3:wrap64 ((q:Int)+2)=((q+2:Nat):Int):=by unfold wrap64;omega
    have hin:(q:Int)+1<n:=by have:=HN.out.1;omega
    have hin':q+1<n:=by omega
    obtain ⟨sp,hsp⟩:∃ sp:Str,(if decide (0<q)=true then [44,32] else [])=sp:=⟨_,rfl⟩;obtain ⟨rg,hrg⟩:∃ rg:Str,(if b=a then [] else [46,46]++numS b)=rg:=⟨_,rfl⟩;have ht2:t1++(sp++numS a++rg)++labT (decide (0<q+2)) (L.drop (q+2))=T:=by
      rw [←ht,labT,hsp,hrg,show decide (0<q+2)=true from decide_eq_true (by omega)];simp only [List.append_assoc]
    have HT2:=qh ht2;have HLT:Hid (l.length+t1.length+sp.length+(numS a).length+rg.length≤lim):=qh (by
      have h1:=HL.out;rw [←ht2] at h1;simp only [List.length_append] at h1;omega)
    have HSP:=qh hsp;have HRG:=qh hrg;have KK:=qh hk;have FF:=qh hf;have CC:=qh fun W (h:Fr B g w W)=>And.intro ((h.1.cell (p:=⟨b1,o1+q,none⟩) hbB).trans ca) ((h.1.cell (p:=⟨b1,o1+(q+1),none⟩) hbB).trans cb)
    have W1:=qh w1;have W3:=qh w3;have QQ:=qh (And.intro hq (And.intro hq2 (And.intro hlt hin')));clear ht ht2 hsp hrg hk hf ha hb hd hlq hq1 ca cb w1 w2' w3 hq hq2 hin hin' hlt hbB;have hlt:(q:Int)<n:=by have:=QQ.out.2.2.1;omega
    obtain ⟨m,hm⟩:∃ m,decide (0<q)=m:=⟨_,rfl⟩;have HM:=qh hm;clear hm;go_upto_region 3 with (fail)
    clear hlt;cases m
    all_goals
      first
        | (have hx:Hid (decide (0<q)=false):=HM
           have h0:¬ (0:Int)<q:=by have:=of_decide_eq_false HM.out;omega
           have K2:=qh (show Wx B g (l++(t1++sp)) wr by rw [←HSP.out,HM.out,if_neg (by decide),List.append_nil];exact KK.out);have F2:=qh FF.out;clear KK FF hx)
        | (have h0:(0:Int)<q:=by have:=of_decide_eq_true HM.out;omega
           have sp2:[44,32]=sp:=by rw [←HSP.out,HM.out];rfl
           have P1:=qh (put_new [[44,32]] (t:=[44,32]) rfl KK.out (by decide) (by have:=HLT.out;rw [←sp2] at this;simp only [List.length_append];simp only [List.length_cons,List.length_nil] at this ⊢;omega));have SP2:=qh sp2;clear sp2;go_wp2_with (go_at_call 35;fail)
           refine P1.out.mono ?_;rintro e w2 ⟨rfl,k9,f9⟩;have K2:=qh (show Wx B g (l++(t1++sp)) w2 by rw [←SP2.out,←List.append_assoc];exact k9);have F2:=qh (FF.out.trans f9);clear k9 f9 P1 KK FF)
      go_upto_region 5 with (fail)
      have ⟨ca,cb⟩:=CC.out _ F2.out;have hin:(q:Int)+1<n:=by have:=QQ.out.2.2.2;omega
      have hlt:(q:Int)<n:=by have:=QQ.out.2.2.1;omega
      have w1:=W1.out;go_quiet (fail)
      rename_i nq;have KD:=qh (K2.out.below (below_drawn (Below.refl _ _) nq));have FD:=qh (F2.out.trans (Fr.of (below_drawn (Below.refl _ _) nq) K2.out.le));clear h0 ca cb hin hlt w1 K2 F2;go_wp2_with (go_at_call 60;fail)
      refine (decimal_any a ia.out _ KD.out.laid).mono ?_;rintro e w4 ⟨rfl,hb⟩;have K4:=qh (KD.out.below hb);have F4:=qh (FD.out.trans (Fr.of hb KD.out.le));clear hb KD FD;unfold sv;go_wp2_with (go_at_call 35;fail)
      refine (put_new [numS a] (t:=numS a) (by simp) K4.out (by simp) (by have:=HLT.out;simp only [List.length_append];omega)).mono ?_;rintro e w5 ⟨rfl,k9,f9⟩;have K5:=qh k9;have F5:=qh (F4.out.trans f9);clear k9 f9 K4 F4;by_cases hab:b=a
      · have z:(b != a)=false:=by rw [hab];simp
        have rg2:[]=rg:=by rw [←HRG.out,if_pos hab]
        have KE:=qh (show Wx B g (l++(t1++(sp++numS a++rg))) w5 by rw [←rg2];have:=K5.out;simpa only [List.append_assoc,List.append_nil] using this);have w3:=W3.out;clear hab K5 rg2;go_wp2_with fail
        go_roundw
        case rel=>exact ⟨q+2,t1++(sp++numS a++rg),by have:=QQ.out;omega,by have:=QQ.out;omega,by go_num,HT2.out,KE.out,F5.out⟩
        case measure=>
          have hm:=qh (meas2 QQ.out.2.2.1 W3.out);first|exact hm.out.1|exact hm.out.2|trace_state
      · have z:(b != a)=true:=by rw [bne_iff_ne];exact hab
        have rg2:[46,46]++numS b=rg:=by rw [←HRG.out,if_neg hab]
        have RG2:=qh rg2;clear hab rg2;go_wp2_with (go_at_call 60;fail)
        refine (decimal_any b ib.out _ K5.out.laid).mono ?_;rintro e w6 ⟨rfl,hb⟩;have K6:=qh (K5.out.below hb);have F6:=qh (F5.out.trans (Fr.of hb K5.out.le));clear hb K5 F5;unfold sv;go_wp2_with (go_at_call 35;fail)
        refine (put_new [[46,46],numS b] (t:=rg) (by rw [←RG2.out];simp) K6.out (by simp) (by have:=HLT.out;simp only [List.length_append];omega)).mono ?_;rintro e w7 ⟨rfl,k9,f9⟩;have KE:=qh (show Wx B g (l++(t1++(sp++numS a++rg))) w7 by have:=k9;simpa only [List.append_assoc] using this);have F7:=qh (F6.out.trans f9);have w3:=W3.out;clear k9 f9 K6 F6;go_wp2_with fail
        go_roundw
        case rel=>exact ⟨q+2,t1++(sp++numS a++rg),by have:=QQ.out;omega,by have:=QQ.out;omega,by go_num,HT2.out,KE.out,F7.out⟩
        case measure=>
          have hm:=qh (meas2 QQ.out.2.2.1 W3.out);first|exact hm.out.1|exact hm.out.2|trace_state
end sh
namespace sh
open ChangeShapes WideShapes ChangeAt RowKit k rr tk tr
theorem rsub {w:World} {b o:Nat} {L:List Value} (pre mid post:List Value) (hL:L=pre++(mid++post)) (h:w.rangeAt b o L):w.rangeAt b (o+pre.length) mid:=fun j v hv=>by
 have h2:=h (pre.length+j) v (by rw [hL,List.getElem?_append_right (by omega),Nat.add_sub_cancel_left,List.getElem?_append_left ((List.getElem?_eq_some_iff.1 hv).1)];exact hv);rw [←Nat.add_assoc] at h2;exact h2
theorem st_dst {w:World} {g:Nat} {h:SH} (hb:Box w g 0 (sC h)):w.rangeAt g 2 (eC h.dst):=rsub [.int .i64 h.op,sv h.name] (eC h.dst) (eC h.val++[h.conds.v,h.labels.v,h.fields.v,h.blocks.v,.int .i64 h.line]) rfl hb.range
theorem st_val {w:World} {g:Nat} {h:SH} (hb:Box w g 0 (sC h)):w.rangeAt g 8 (eC h.val):=rsub ([.int .i64 h.op,sv h.name]++eC h.dst) (eC h.val) [h.conds.v,h.labels.v,h.fields.v,h.blocks.v,.int .i64 h.line] rfl hb.range
theorem row_all {α:Type} {L:List α} {i:Nat} (h:i<L.length) (f:α→Bool):(L.drop i).all f=((L[i]?.map f).getD false&&(L.drop (i+1)).all f):=by
 rw [List.drop_eq_getElem_cons h,List.all_cons,List.getElem?_eq_getElem h];rfl
theorem rightLabels_any {L:List Int} {s:Sl} {w:World} (h1:RS iC 1 w w.heap.size s L):Calls Tryz.prog 93 #[s.v] w fun e w'=>e=.returned (.bool (labB L))∧Below w.heap.size w w':=by
 have AL:=qh (all_i h1 (fun i=>(L.drop i).all fun n=>n != -9223372036854775808) (fun i=>(L[i]?.map fun n=>n != -9223372036854775808).getD false) _ rfl
  (by show (L.drop s.l).all _=true;rw [List.drop_of_length_le (by rw [h1.1];exact Nat.le_refl _)];rfl) (fun i hi=>row_all (by rw [h1.1];exact hi) _) (fun i x hx W hW=>by rw [at_get hx];exact signed_any x W))
 have hl:L.length=s.l:=h1.1;have hle:(s.l:Int)≤9223372036854775807:=Rd.len_le h1;unfold labB;rw [hl];rw [show L.drop 0=L from rfl] at AL;obtain ⟨A,n,c⟩:=s;simp only [Sl.v] at AL hle ⊢;generalize (L.all fun n=>n != -9223372036854775808)=u at *;clear h1 hl;go_enter Tryz.func93,Tryz.ntmps93
 by_cases h0:0<n
 rotate_left
 ·have h0':¬ (0:Int)<n:=by omega
  rw [decide_eq_false h0];go_wp2;go_ret
  exact ⟨rfl,Below.refl _ _⟩
 have h0':(0:Int)<n:=by omega
 rw [decide_eq_true h0];obtain ⟨v,hv⟩:∃ v,(n % 2==0)=v:=⟨_,rfl⟩;have h2:((n:Int) % 2==0)=v:=by
  rw [←hv,Bool.eq_iff_iff,beq_iff_eq,beq_iff_eq];omega
 have h3:(((n:Int).tmod 2)==0)=v:=by
  rw [Int.tmod_eq_emod_of_nonneg (by omega)];exact h2
 rw [hv];clear hv h0;cases v
 ·go_wp2
  go_ret
  exact ⟨rfl,Below.refl _ _⟩
 ·go_wp2_with (go_at_call 123;fail)
  refine AL.out.mono ?_;rintro e w2 ⟨rfl,hb⟩;have B2:=qh hb;clear hb AL;go_wp2_with fail
  go_ret
  exact ⟨rfl,B2.out⟩
theorem rightPlace_any {x:Ex} {h:EH} {w:World} (hM:MaxL w) (hx:ExAt w w.heap.size x h):Calls Tryz.prog 89 #[.agg (eC h).toArray] w fun e w'=>e=.returned (.bool (placeB x))∧Below w.heap.size w w':=by
 have RX:=qh (fun W (hW:Below w.heap.size w W)=>right_e (hM.below hW) (hx.below hW hW.size));have ho:opE x=h.op:=by
  cases x
  unfold ExAt at hx;exact hx.1.symm
 unfold placeB;rw [ho];generalize exB x=u at *;have HB:=qh (al1 w (.cells (eC h).toArray 44));have X1:=qh (Box.new w (eC h).toArray 44);clear hM hx ho;obtain ⟨u1,h1⟩:∃ u,(h.op==3)=u:=⟨_,rfl⟩;obtain ⟨u2,h2⟩:∃ u,(h.op==4)=u:=⟨_,rfl⟩;rw [h1,h2];have c0:=(cell_of X1.out (i:=0) rfl).1;go_enter Tryz.func89,Tryz.ntmps89
 go_upto_region 1 with (fail)
 generalize w.alloc (.cells (eC h).toArray 44)=w1 at *;have RX1:=qh (RX.out w1 HB.out);clear RX;have X1:Hid (Box w1 w.heap.size 0 (eC h)):=X1;cases u1<;>cases u2
 ·go_wp2_with fail
  go_ret
  exact ⟨rfl,HB.out⟩
 all_goals
  go_wp2_with (first|((with_reducible refine m_load X1.out 44 1 ?_ ?_ ?_ ?_ ?_ ?_);rfl;rfl;rfl;rfl;kernel_rfl)|(go_at_call 90;fail))
  refine RX1.out.mono ?_;rintro e w2 ⟨rfl,hb⟩;have B2:=btr HB hb;clear hb RX1;go_wp2_with fail
  go_ret
  exact ⟨rfl,B2.out⟩
theorem flag {w:World} {g i:Nat} {vs:List Value} (hb:Box w g 0 vs) (hi:i<vs.length) (hv:vs[i]?=some (.int .i64 0)) (u:Bool) :
  ∃ w',(bif u then w.setCell ⟨g,i,none⟩ (.int .i64 1) else w)=w'∧Box w' g 0 (vs.set i (.int .i64 (oneIf u)))∧(∀ g' vs',g'≠g→Box w g' 0 vs'→Box w' g' 0 vs')∧(∀ B,B≤g→Below B w w')∧w'.heap.size=w.heap.size:=by
 cases u
 ·refine ⟨w,rfl,?_,fun _ _ _ h=>h,fun _ _=>Below.refl _ _,rfl⟩
  have:vs.set i (.int .i64 (oneIf false))=vs:=by
   refine List.ext_getElem? fun j=>?_
   rw [List.getElem?_set];split
   ·rename_i h
    subst h;rw [hv];rfl
   ·rfl
  rw [this];exact hb
 ·exact ⟨_,rfl,Box.put hb i hi _,fun g' vs' hne h=>Box_aside (Ne.symm hne) _ h,fun B hB=>(Below.refl _ _).setCell hB _,by simp⟩
def partsS (h:SH) (x y:Bool):Pt:=⟨oneIf (h.name != []),oneIf (!x),oneIf (!y),h.conds.l,h.labels.l,h.fields.l,h.blocks.l⟩
theorem partsOf_any {h:SH} {x y:Ex} {w:World} {B:Nat} (hx:ExAt w B x h.dst) (hy:ExAt w B y h.val) (hB:B≤w.heap.size):Calls Tryz.prog 87 #[.agg (sC h).toArray] w fun e w'=>e=.returned (.agg (ptC (partsS h (noE x) (noE y))).toArray)∧Below w.heap.size w w':=by
 have MX:=qh fun W (hW:Below w.heap.size w W)=>missing_any (hx.below (hW.mono hB) (Nat.le_refl _))
 have MY:=qh fun W (hW:Below w.heap.size w W)=>missing_any (hy.below (hW.mono hB) (Nat.le_refl _))
 have t1:=str_no h.name _ rfl;clear hx hy hB;unfold partsS;generalize noE x=n1 at *;generalize noE y=n2 at *;obtain ⟨op,nm,hd,hv,⟨A1,l1,c1⟩,⟨A2,l2,c2⟩,⟨A3,l3,c3⟩,⟨A4,l4,c4⟩,ln⟩:=h;simp only at MX MY t1 ⊢;have X0:=qh (Box.new w (sC ⟨op,nm,hd,hv,⟨A1,l1,c1⟩,⟨A2,l2,c2⟩,⟨A3,l3,c3⟩,⟨A4,l4,c4⟩,ln⟩).toArray 49);have Z0:=qh (show (w.alloc (.cells (sC ⟨op,nm,hd,hv,⟨A1,l1,c1⟩,⟨A2,l2,c2⟩,⟨A3,l3,c3⟩,⟨A4,l4,c4⟩,ln⟩).toArray 49)).heap.size=w.heap.size+1 by simp);have B0:=qh (al1 w (.cells (sC ⟨op,nm,hd,hv,⟨A1,l1,c1⟩,⟨A2,l2,c2⟩,⟨A3,l3,c3⟩,⟨A4,l4,c4⟩,ln⟩).toArray 49));have t2:(nm != [])=!(nm==[]):=rfl;have t3:((⟨nm.toArray⟩:ByteArray).toList != [])=!(nm==[]):=by rw [bne,t1]
 rw [t2];clear t2;have t4:(⟨nm.toArray⟩:ByteArray).toList.isEmpty=(nm==[]):=by
  rw [←t1];cases (⟨nm.toArray⟩:ByteArray).toList<;>rfl
 clear t3 t1;obtain ⟨LV,hLV⟩:∃ L,ptC ⟨oneIf !(nm==[]),oneIf !n1,oneIf !n2,l1,l2,l3,l4⟩=L:=⟨_,rfl⟩;rw [hLV];have hone:∀ u∈LV,u.oneCell'=true:=hLV ▸ ptC_one _;have HO:=qh (And.intro hone (show LV.length=7 by rw [←hLV];rfl));have HLV:=qh hLV;clear hLV hone;go_enter Tryz.func87,Tryz.ntmps87
 go_upto_region 1 with (fail)
 generalize w.alloc (.cells (sC ⟨op,nm,hd,hv,⟨A1,l1,c1⟩,⟨A2,l2,c2⟩,⟨A3,l3,c3⟩,⟨A4,l4,c4⟩,ln⟩).toArray 49)=w1 at *;have X0:Hid (Box w1 w.heap.size 0 (sC ⟨op,nm,hd,hv,⟨A1,l1,c1⟩,⟨A2,l2,c2⟩,⟨A3,l3,c3⟩,⟨A4,l4,c4⟩,ln⟩)):=X0;have c14:=(cell_of X0.out (i:=14) rfl).1;have X1:=qh (Box.new w1 #[.int .i64 0,.int .i64 0,.int .i64 0,.int .i64 0,.int .i64 0,.int .i64 0,.int .i64 0] 136);have hb1:=al1 w1 (.cells #[.int .i64 0,.int .i64 0,.int .i64 0,.int .i64 0,.int .i64 0,.int .i64 0,.int .i64 0] 136);have hz1:(w1.alloc (.cells #[.int .i64 0,.int .i64 0,.int .i64 0,.int .i64 0,.int .i64 0,.int .i64 0,.int .i64 0] 136)).heap.size=w1.heap.size+1:=by simp
 rw [Z0.out] at hb1 hz1 X1;generalize w1.alloc (.cells #[.int .i64 0,.int .i64 0,.int .i64 0,.int .i64 0,.int .i64 0,.int .i64 0,.int .i64 0] 136)=w2 at *;have Y0:=qh (X0.out.below hb1 (by omega));have B1:=qh (B0.out.trans (hb1.mono (by omega)));have Z1:=qh hz1;have X1:Hid (Box w2 (w.heap.size+1) 0 [.int .i64 0,.int .i64 0,.int .i64 0,.int .i64 0,.int .i64 0,.int .i64 0,.int .i64 0]):=X1;have hg1:=Z0.out;clear hb1 hz1 X0 B0 Z0 c14;have c14:=(cell_of Y0.out (i:=14) rfl).1;have c15:=(cell_of Y0.out (i:=15) rfl).1;have c16:=(cell_of Y0.out (i:=16) rfl).1;have c17:=(cell_of Y0.out (i:=17) rfl).1;have c1:=(cell_of Y0.out (i:=1) rfl).1;simp only [Sl.v,sv] at c14 c15 c16 c17 c1;have hz2:=Z1.out;go_upto_region 2 with (fail)
 have hx:=Box.new w2 #[.int .i64 0,.int .i64 0,.int .i64 0,.int .i64 l1,.int .i64 l2,.int .i64 l3,.int .i64 l4] 136;have hb:=al1 w2 (.cells #[.int .i64 0,.int .i64 0,.int .i64 0,.int .i64 l1,.int .i64 l2,.int .i64 l3,.int .i64 l4] 136);have hz:(w2.alloc (.cells #[.int .i64 0,.int .i64 0,.int .i64 0,.int .i64 l1,.int .i64 l2,.int .i64 l3,.int .i64 l4] 136)).heap.size=w2.heap.size+1:=by simp
 rw [Z1.out] at hb hz hx;generalize w2.alloc (.cells #[.int .i64 0,.int .i64 0,.int .i64 0,.int .i64 l1,.int .i64 l2,.int .i64 l3,.int .i64 l4] 136)=w3 at *;obtain ⟨w4,e4,v4,k4,b4,z4⟩:=flag (i:=0) hx (by simp) rfl (!(nm==[]));have hx:Box w3 (w.heap.size+1+1) 0 [.int .i64 0,.int .i64 0,.int .i64 0,.int .i64 l1,.int .i64 l2,.int .i64 l3,.int .i64 l4]:=hx;have V4:Hid (Box w4 (w.heap.size+1+1) 0 [.int .i64 (oneIf !(nm==[])),.int .i64 0,.int .i64 0,.int .i64 l1,.int .i64 l2,.int .i64 l3,.int .i64 l4]):=qh v4;have Y4:=qh (k4 _ _ (by omega) (Y0.out.below hb (by omega)));have X4:=qh (k4 _ _ (by omega) (X1.out.below hb (by omega)));have B4:=qh (B1.out.trans ((hb.trans (b4 _ (Nat.le_refl _))).mono (by omega)));have Z4:=qh (z4.trans hz);have d1:=(cell_of (Y0.out.below hb (by omega)) (i:=1) rfl).1;have d0:=cell_of hx (i:=0) rfl;simp only [sv] at d1;have ⟨d0,f0⟩:=d0;clear hx hb hz v4 k4 b4 z4 Y0 X1 B1 Z1 c14 c15 c16 c17 c1 hz2;generalize (nm==[])=u1 at *;generalize (⟨nm.toArray⟩:ByteArray)=xs at *;cases u1
 all_goals
  have E4:=qh e4;clear e4;go_upto_region 4 with (fail)
  first
   | (have e4:w3.setCell ⟨w.heap.size+1+1,0,none⟩ (.int .i64 1)=w4:=E4.out;rw [e4];clear e4)
   | (have e4:w3=w4:=E4.out;subst e4)
  clear E4 d0 f0 d1;go_wp2_with (first|((with_reducible refine m_loadR (st_dst Y4.out) 44 21 ?_ ?_ ?_ ?_ ?_ ?_);rfl;rfl;rfl;rfl;kernel_rfl)|(go_at_call 119;fail))
  refine (MX.out _ B4.out).mono ?_;rintro e w5 ⟨rfl,hb⟩;have V5:=qh (V4.out.below hb (by have:=Z4.out;omega));have Y5:=qh (Y4.out.below hb (by have:=Z4.out;omega));have X5:=qh (X4.out.below hb (by have:=Z4.out;omega));have B5:=btr B4 hb;have Z5:=qh (show w.heap.size+1+1<w5.heap.size by have:=Z4.out;have:=hb.size;omega);clear hb V4 Y4 X4 B4 Z4 MX;obtain ⟨w6,e6,v6,k6,b6,z6⟩:=flag (i:=1) V5.out (by simp) rfl (!n1);have ⟨d0,f0⟩:=cell_of V5.out (i:=1) rfl;have V6:=qh v6;have Y6:=qh (k6 _ _ (by omega) Y5.out);have X6:=qh (k6 _ _ (by omega) X5.out);have B6:=qh (B5.out.trans (b6 _ (by omega)));have Z6:=qh (show w.heap.size+1+1<w6.heap.size by have:=Z5.out;omega);clear v6 k6 b6 z6 V5 Y5 X5 B5 Z5;cases n1
  all_goals
   have E6:=qh e6;clear e6;go_upto_region 6 with (fail)
   first
    | (have e6:w5.setCell ⟨w.heap.size+1+1,1,none⟩ (.int .i64 1)=w6:=E6.out;rw [e6];clear e6)
    | (have e6:w5=w6:=E6.out;subst e6)
   clear E6 d0 f0;go_wp2_with (first|((with_reducible refine m_loadR (st_val Y6.out) 44 26 ?_ ?_ ?_ ?_ ?_ ?_);rfl;rfl;rfl;rfl;kernel_rfl)|(go_at_call 119;fail))
   refine (MY.out _ B6.out).mono ?_;rintro e w7 ⟨rfl,hb⟩;have V7:=qh (V6.out.below hb Z6.out);have X7:=qh (X6.out.below hb (by have:=Z6.out;omega));have B7:=btr B6 hb;have Z7:=qh (show w.heap.size+1+1<w7.heap.size by have:=Z6.out;have:=hb.size;omega);clear hb V6 Y6 X6 B6 Z6 MY;obtain ⟨w8,e8,v8,k8,b8,z8⟩:=flag (i:=2) V7.out (by simp) rfl (!n2);have ⟨d0,f0⟩:=cell_of V7.out (i:=2) rfl;have X8:=qh (k8 _ _ (by omega) X7.out);have B8:=qh (B7.out.trans (b8 _ (by omega)));have Z8:=qh (show w.heap.size+1+1<w8.heap.size by have:=Z7.out;omega);clear k8 b8 z8 V7 X7 B7;have V8:Hid (Box w8 (w.heap.size+1+1) 0 LV):=qh (by rw [←HLV.out];exact v8);clear v8 HLV;cases n2
   all_goals
    have E8:=qh e8;clear e8;go_upto_region 8 with (fail)
    first
     | (have e8:w7.setCell ⟨w.heap.size+1+1,2,none⟩ (.int .i64 1)=w8:=E8.out;rw [e8];clear e8)
     | (have e8:w7=w8:=E8.out;subst e8)
    clear E8 d0 f0;go_wp2_with (first|((with_reducible refine m_load V8.out 136 3 ?_ ?_ ?_ ?_ ?_ ?_);rfl;rfl;rfl;rfl;(rw [HO.out.2];kernel_rfl))|((with_reducible refine m_store X8.out 136 2 31 ?_ ?_ ?_ LV ?_ ?_ ?_ ?_ HO.out.1 ?_);rfl;rfl;rfl;rfl;rfl;exact HO.out.2;(rw [HO.out.2];kernel_rfl);intro w9 hx hg hs))
    refine bodyPost_ret (k.results_cell rfl rfl (run_loadVar_mid _ (w.heap.size+1) 0 136 _ _ hx.range rfl rfl (by rw [HO.out.2];kernel_rfl))) rfl ?_;exact ⟨rfl,B8.out.trans (gr_below hg (by omega) (by have:=Z8.out;omega))⟩
end sh
end Go.Proofs.YtdefgghhkknnpaaGreatDoor
