/- The landed parser's programs of rows of signs. Condition: at most 17000 signs. The landed parser's deferred function: what it makes of a panic. No condition but what each line says. What the lexer gives: names that are no words, numbers that have room. No condition. -/
import Derived.Test.YtdefgghhkknnpaaGreatDoorE15
import Derived.Test.YtdefgghhkknnpaaGreatDoorE25
import Derived.Defers
import Derived.Recover
set_option linter.unusedVariables false
set_option linter.unusedSimpArgs false
set_option maxRecDepth 100000
set_option maxHeartbeats 40000000
namespace Go.Proofs.YtdefgghhkknnpaaGreatDoor
namespace tr
open ChangeShapes WideShapes ChangeAt RowKit k rr tk
def GvP (g:Nat) (w:World) (p:Res Pg) (e:Ending) (w':World):Prop:=match p with
 | .ok x r=>(∃ h,e=.returned (.agg (gC h).toArray)∧PgB w' (Nw w.heap.size w'.heap.size) x h)∧Below g w w'
 | .bad n t=>e=.panicked [{v:=mis n t,recovered:=false}]∧Below g w w'
theorem GvP.badOf {g:Nat} {w w':World} {p:Res Pg} {n:Int} {t:Tk} (hp:p=.bad n t) (hb:Below g w w'):GvP g w p (.panicked [{v:=mis n t,recovered:=false}]) w':=by
 subst hp;exact ⟨rfl,hb⟩
theorem GvP.okOf {g:Nat} {w w':World} {p:Res Pg} {x:Pg} {r:Sg} {h:GH} (hp:p=.ok x r) (hb:Below g w w') (hx:PgB w' (Nw w.heap.size w'.heap.size) x h):GvP g w p (.returned (.agg (gC h).toArray)) w':=by
 subst hp;exact ⟨⟨h,rfl,hx⟩,hb⟩
theorem gC_one (h:GH):∀ u∈gC h,u.oneCell'=true:=by
 intro u hu;simp only [gC,List.mem_cons,List.not_mem_nil,or_false] at hu;rcases hu with rfl|rfl|rfl<;>rfl
theorem rb_own2 {α:Type} {enc:α→List Value} {z:Nat} (hz:∀ x,(enc x).length=z) {w:World} {t:TypeId} {base:Nat} {s:Sl} {L:List α} {a b:Nat} (h:Ow enc z t w base s.v L) (ha:∀ q,s.v.ownBlock=some q→a≤q) (hb:w.heap.size≤b):RB enc z w (Nw a b) s L:=by
 obtain ⟨s',e,hr⟩:=RB.own hz h (S:=Nw a b) (fun q e=>by have:=Ow.lt h e;exact ⟨ha q e,by omega⟩);obtain ⟨A,l,c⟩:=s;obtain ⟨A',l',c'⟩:=s';simp only [Sl.v,Value.slice.injEq] at e;obtain ⟨rfl,rfl,rfl⟩:=e;exact hr
section
variable {r:Sg} {g:Nat} {w:World}
theorem program_any (hP:Par w g r (.slice none 0 0) 0) (hr:RowOk r) (hl:r.length≤17000) {f:Nat} (hf:20*r.length+12≤f) :
  Calls Tryz.prog 25 #[.pointer (some ⟨g,0,none⟩)] w (GvP g w (progP f r)):=by
 obtain ⟨R,hR⟩:∃ R:Res Pg,(progP f r)=R:=⟨_,rfl⟩;rw [hR];have HR:=qh hR;clear hR;have O1:=qh (Ow.nil vC 8 60 w (g+1));have HL:=qh hl;have HF:=qh hf;clear hl hf;have P1:=qh hP;have G1:=qh (Below.refl g w);have R1:=qh hr;have Z1:=qh (show g<w.heap.size from hP.lt);clear hP hr;have hq:=HR.out;unfold progP at hq;have HR2:=qh hq;clear hq HR;go_enter Tryz.func25,Tryz.ntmps25
 go_upto_region 1 with (fail)
 obtain ⟨hb,hx,hz⟩:=znew w #[.string ⟨#[]⟩,.slice none 0 0,.slice none 0 0] 25;generalize w.alloc (.cells #[.string ⟨#[]⟩,.slice none 0 0,.slice none 0 0] 25)=w4 at *;have hg:=gr_of (row:=some w.heap.size) hb;have Z3:=qh (And.intro hz Z1.out);have X4:=qh hx;clear hb hx hz;replace O1:=oqq hg Z1 O1;replace P1:=pgq hg Z1 P1;have G7:=qh (G1.out.trans (gr_below hg (qq Z1) (qq Z1)));clear G1;have Z8:=hzz hg Z3;clear hg;have L9:=qh (drop_len r);by_cases hs10:txt (r)=[80,82,79,71,82,65,77]
 rotate_left
 ·have hq:=HR2.out
  rw [need_badE hs10] at hq;go_wp2_with (go_at_call 47;fail)
  refine (need_no P1.out R1.out (hnq R1 hs10)).mono ?_;rintro e w5 ⟨rfl,hb⟩;go_wp2;exact ⟨rfl,GvP.badOf hq.symm (G7.out.trans (hb.mono (qq Z8)))⟩
 have hq:=HR2.out;rw [need_okE hs10,bind_okE] at hq;have HR11:=qh hq;clear hq HR2;have R12:=qh (R1.out.drop (txt_kind hs10 (by decide)));go_wp2_with (go_at_call 47;fail)
 refine (need_yes P1.out R1.out (hyq R1 hs10)).mono ?_;rintro e w5 ⟨rfl,hp,hg⟩;have P13:=qh hp;replace X4:=hbq hg Z8 X4;replace O1:=oqq hg Z8 O1;clear P1;have G16:=qh (G7.out.trans (gr_below hg (qq Z8) (qq Z8)));clear G7;have Z17:=hzz hg Z8;clear hg hp R1;generalize ((r).drop 1)=r18 at *;have L19:=qh (show r18.length≤r.length by have:=L9.out;omega);have f1:=tok_f1 (tr.hd r18);have L20:=qh (drop_len r18);by_cases hs21:(tr.hd (r18)).kind=1
 rotate_left
 ·have hq:=HR11.out
  rw [want_badE hs21] at hq;go_wp2_with (go_at_call 47;fail)
  refine (need_no P13.out R12.out (mt (headS_kind R12.out).1.1 hs21)).mono ?_;rintro e w6 ⟨rfl,hb⟩;go_wp2;exact ⟨rfl,GvP.badOf hq.symm (G16.out.trans (hb.mono (qq Z17)))⟩
 have hq:=HR11.out;rw [want_okE hs21,bind_okE] at hq;have HR22:=qh hq;clear hq HR11;have R23:=qh (R12.out.drop (by rw [hs21];decide));go_wp2_with (go_at_call 47;fail)
 refine (need_yes P13.out R12.out ((headS_kind R12.out).1.2 hs21)).mono ?_;rintro e w6 ⟨rfl,hp,hg⟩;have P24:=qh hp;replace X4:=hbq hg Z17 X4;replace O1:=oqq hg Z17 O1;clear P13;have G27:=qh (G16.out.trans (gr_below hg (qq Z17) (qq Z17)));clear G16;have Z28:=hzz hg Z17;clear hg hp R12;generalize ((r18).drop 1)=r29 at *;have L30:=qh (show r29.length≤r.length by have:=L20.out;have:=L19.out;omega);have hfx:20*r29.length+1≤f:=(by have z:=Z28.out;have:=HF.out;have:=L30.out;omega);have SA:=qh (sections_any P24.out R23.out O1.out (by decide) hfx);have FI:=qh (fin_sects f r29 [] hfx);clear hfx;go_wp2_with (go_at_call 48;fail)
 refine SA.out.mono ?_;rintro e w7 hgv;rcases hp:sectsF f r29 [] with ⟨vs1,r5⟩|⟨n9,t9⟩
 rotate_left
 ·rw [hp] at hgv
  obtain ⟨rfl,hb⟩:=hgv;have hq:=HR22.out;rw [hp] at hq;go_wp2;exact ⟨rfl,GvP.badOf hq.symm (G27.out.trans (gr_below hb.grown (Nat.le_refl _) (qq Z28)))⟩
 rw [hp] at hgv;obtain ⟨rfl,hr9,hb,V5,hlk,hP9,hO9⟩:=hgv;have hq:=HR22.out;rw [hp,bind_okE] at hq;have HR31:=qh hq;clear hq HR22;have L5:Hid (r5.length<r29.length+1):=by
  have:=FI.out;rw [hp] at this;exact qh this
 clear FI hp SA;have HLK:=qh (show ∀ q,V5.ownBlock=some q→w6.heap.size≤q from fun q e=>(hlk q e).elim (fun h=>by cases h) id);clear hlk;have hg:=hb.grown;have P32:=qh hP9;have O33:=qh hO9;have R34:=qh hr9;clear R23 O1 hP9 hO9 hr9 hb;replace X4:=hbq hg Z28 X4;clear P24;have G36:=qh (G27.out.trans (gr_below hg (qq Z28) (qq Z28)));clear G27;have Z37:=hzz hg Z28;clear hg;have L38:=qh (show r5.length≤r.length by have:=L5.out;have:=L30.out;omega);have HS:=qh (show ∀ r1,RowOk r1→r1.length≤17000→20*r1.length+12≤f→BCtr Tryz.prog 49 [[69,78,68,95,80,82,79,71,82,65,77]] (stmtsF f 0 [[69,78,68,95,80,82,79,71,82,65,77]] r1 []) 0 r1 from fun r1 h1 h2 h3=>block_gets h1 h2 h3 _ (by decide) fun f1 r2 g1 g2 g3 g4=>stmt_all f1 0 r2 (by decide) g3 (by omega) g4);have FI:=qh (fin_stmts (d:=0) (f:=f) (r:=r5) (ends:=[[69,78,68,95,80,82,79,71,82,65,77]]) (ac:=[]) (by have z:=Z37.out;have:=HF.out;have:=HL.out;have:=L38.out;omega));go_wp2_with (go_at_call 49;fail)
 have hb:=(Below.refl w7.heap.size w7).alloc (Nat.le_refl _) (.cells #[.string ⟨#[69,78,68,95,80,82,79,71,82,65,77]⟩] 9);have hR:RB tC1 1 (w7.alloc (.cells #[.string ⟨#[69,78,68,95,80,82,79,71,82,65,77]⟩] 9)) (Nw w7.heap.size (w7.heap.size+1)) ⟨some ⟨w7.heap.size,0,none⟩,1,1⟩ [[69,78,68,95,80,82,79,71,82,65,77]]:=rb_many w7 9 [[69,78,68,95,80,82,79,71,82,65,77]] #[.string ⟨#[69,78,68,95,80,82,79,71,82,65,77]⟩] rfl (Nat.le_refl _) (Nat.le_refl _);have hz:(w7.alloc (.cells #[.string ⟨#[69,78,68,95,80,82,79,71,82,65,77]⟩] 9)).heap.size=w7.heap.size+1:=by simp
 generalize w7.alloc (.cells #[.string ⟨#[69,78,68,95,80,82,79,71,82,65,77]⟩] 9)=w8 at *;have hg:=gr_of (row:=some w7.heap.size) hb;have HZ1:=qh hz;have HRB:=qh hR;clear hb hR hz;have Z39:=qh (And.intro HZ1.out Z37.out);have E40:=HRB;clear HZ1 HRB;replace X4:=hbq hg Z37 X4;replace O33:=oqq hg Z37 O33;replace P32:=pgq hg Z37 P32;have G44:=qh (G36.out.trans (gr_below hg (qq Z37) (qq Z37)));clear G36;have Z45:=hzz hg Z39;clear hg;refine (HS.out r5 R34.out (by have z:=Z45.out;have:=HF.out;have:=HL.out;have:=L38.out;omega) (by have z:=Z45.out;have:=HF.out;have:=HL.out;have:=L38.out;omega) _ _ _ _ P32.out (qq Z45) (qq Z45) E40.out).mono ?_;rintro e w9 hgv;rcases hp:stmtsF f 0 [[69,78,68,95,80,82,79,71,82,65,77]] r5 [] with ⟨B1,r6⟩|⟨n9,t9⟩
 rotate_left
 ·rw [hp] at hgv
  obtain ⟨rfl,hg⟩:=hgv;have hq:=HR31.out;rw [hp] at hq;go_wp2;exact ⟨rfl,GvP.badOf hq.symm (G44.out.trans (gr_below hg (Nat.le_refl _) (qq Z45)))⟩
 rw [hp] at hgv;obtain ⟨⟨v9,rfl,hG⟩,hP9,hr9,hg⟩:=hgv;have hq:=HR31.out;rw [hp] at hq;try rw [bind_okE] at hq
 have HR47:=qh hq;clear hq HR31;have P48:=qh hP9;have R49:=qh hr9;replace X4:=hbq hg Z45 X4;replace E40:=hrq hg Z45 E40;replace O33:=oqq hg Z45 O33;clear P32;have G53:=qh (G44.out.trans (gr_below hg (qq Z45) (qq Z45)));clear G44;have Z54:=hzz hg Z45;clear hg hP9 hr9 R34;obtain ⟨s55,rfl,hE9⟩:=hG;have E56:=qh hE9;clear hE9 E40 FI hp HS;by_cases hs58:txt (r6)=[69,78,68,95,80,82,79,71,82,65,77]
 rotate_left
 ·have hq:=HR47.out
  rw [need_badE hs58] at hq;go_wp2_with (go_at_call 47;fail)
  refine (need_no P48.out R49.out (hnq R49 hs58)).mono ?_;rintro e w10 ⟨rfl,hb⟩;go_wp2;exact ⟨rfl,GvP.badOf hq.symm (G53.out.trans (hb.mono (qq Z54)))⟩
 have hq:=HR47.out;rw [need_okE hs58,bind_okE] at hq;have HR59:=qh hq;clear hq HR47;have R60:=qh (R49.out.drop (txt_kind hs58 (by decide)));go_wp2_with (go_at_call 47;fail)
 refine (need_yes P48.out R49.out (hyq R49 hs58)).mono ?_;rintro e w10 ⟨rfl,hp,hg⟩;have P61:=qh hp;replace X4:=hbq hg Z54 X4;replace E56:=hsq hg Z54 E56;replace O33:=oqq hg Z54 O33;clear P48;have G65:=qh (G53.out.trans (gr_below hg (qq Z54) (qq Z54)));clear G53;have Z66:=hzz hg Z54;clear hg hp R49;generalize ((r6).drop 1)=r67 at *;by_cases hk:(tr.hd r67).kind=0
 rotate_left
 ·have hq:=HR59.out
  rw [if_neg hk] at hq;go_wp2_with (go_at_call 47;fail)
  refine (need_no P61.out R60.out (mt (headS_kind R60.out).2.2.1 hk)).mono ?_;rintro e w11 ⟨rfl,hb⟩;go_wp2;exact ⟨rfl,GvP.badOf hq.symm (G65.out.trans (hb.mono (qq Z66)))⟩
 have hq:=HR59.out;rw [if_pos hk] at hq;have HR68:=qh hq;clear hq HR59;go_wp2_with (go_at_call 47;fail)
 refine (need_yes P61.out R60.out ((headS_kind R60.out).2.2.2 hk)).mono ?_;rintro e w11 ⟨rfl,hp,hg⟩;have P69:=qh hp;replace X4:=hbq hg Z66 X4;replace E56:=hsq hg Z66 E56;replace O33:=oqq hg Z66 O33;clear P61;have G73:=qh (G65.out.trans (gr_below hg (qq Z66) (qq Z66)));clear G65;have Z74:=hzz hg Z66;clear hg hp;obtain ⟨A9,cap9,hV5,_⟩:=O33.out.form vC_len;subst hV5;obtain ⟨A1,c1,hB1,hR1⟩:=P69.out;have ⟨a0,k0,a1,k1,a2,k2,_⟩:=hB1;clear hB1 hR1;have EV:=qh (rb_own2 (s:=⟨A9,vs1.length,cap9⟩) vC_len O33.out HLK.out (Nat.le_refl _));clear O33;obtain ⟨A8,l8,c8⟩:=s55;dsimp only [Sl.v]
 go_wp2_with ((with_reducible refine m_store X4.out 25 2 25 ?_ ?_ ?_ (gC ⟨(tr.hd (r18)).text,⟨A9,vs1.length,cap9⟩,⟨A8,l8,c8⟩⟩) ?_ ?_ ?_ ?_ (gC_one _) ?_);rfl;rfl;rfl;rfl;rfl;rfl;kernel_rfl;intro w12 hx hg hs)
 clear a0 k0 a1 k1 a2 k2;have X75:=qh hx;have Z76:=qh (And.intro hs Z74.out);clear hx hs X4;replace E56:=hsq hg Z74 E56;replace EV:=hrq hg Z74 EV;replace P69:=pgq hg Z74 P69;have G80:=qh (G73.out.trans (gr_below hg (qq Z74) (qq Z74)));clear G73;have Z81:=hzz hg Z76;clear hg;refine bodyPost_ret (k.results_cell rfl rfl (run_loadVar_mid _ w.heap.size 0 25 _ _ X75.out.range rfl rfl (by kernel_rfl))) rfl ?_;exact GvP.okOf (h:=⟨(tr.hd (r18)).text,⟨A9,vs1.length,cap9⟩,⟨A8,l8,c8⟩⟩) HR68.out.symm G80.out ⟨rfl,RB.kept (more_nw (qq Z81) (qq Z81)) EV.out,StLB.kept (more_nw (qq Z81) (qq Z81)) E56.out⟩
end
theorem word_ok {l:List UInt8} (h:isWord l=true):l≠nameS∧l≠numS∧l≠endS:=by
  refine ⟨?_,?_,?_⟩<;>(rintro rfl;revert h;decide)
theorem number_ok {r:List UInt8} (h:(number r).1=0):(number r).2.1≤9223372036854775807:=by
  unfold number at h ⊢;simp only at h ⊢;split at h
  · cases h
  · rename_i h1
    rw [if_neg h1];split at h
    · cases h
    · rename_i h2
      rw [if_neg h2]
      show val _ _≤_
      omega
theorem sgn_ok {r:List UInt8} {k:Int} {v n:Nat} (h:sgn r=(0,k,v,n)) (ln cl:Nat):SgOk ⟨k,r.take n,v,ln,cl⟩:=by
  have hn:=sgn_len h;unfold sgn at h;cases r with
  | nil=>simp at h
  | cons c l=>
    simp only at h;split at h
    · split at h
      · rename_i hw
        simp only [Prod.mk.injEq,true_and] at h;obtain ⟨rfl,rfl,rfl⟩:=h;exact .inl ⟨.inl rfl,word_ok hw⟩
      · split at h
        · simp at h
        · simp only [Prod.mk.injEq,true_and] at h
          obtain ⟨rfl,rfl,rfl⟩:=h;exact .inr (.inl rfl)
    · rename_i ha
      split at h
      · split at h
        · rename_i hx
          simp only [Prod.mk.injEq,true_and] at h;obtain ⟨rfl,rfl,rfl⟩:=h;have:=number_ok hx;refine .inr (.inr ⟨rfl,?_,?_⟩)
          · show (0:Int)≤((number (c::l)).2.1:Nat)
            omega
          · show (((number (c::l)).2.1:Nat):Int)≤_
            omega
        · simp at h
          exact absurd h.1 (by assumption)
      · split at h
        · simp at h
        · simp only [Prod.mk.injEq,true_and] at h
          obtain ⟨rfl,rfl,rfl⟩:=h;obtain ⟨m,hm⟩:∃ m,signLen (c::l)=m+1:=⟨signLen (c::l)-1,by omega⟩;rw [hm,List.take_succ_cons];refine .inl ⟨.inr rfl,?_,?_,?_⟩<;>(intro e;injection e with e1;subst e1;exact ha (by decide))
theorem row_all:∀ {A:List Tk} {e:Tk},(∀ t∈A,SgOk t)→e.kind=0→RowOk (A++[e])
  | [],e,_,he=>.inl ⟨rfl,he⟩
  | t::A,e,h,he=>.inr ⟨h t (by simp),row_all (fun u hu=>h u (by simp [hu])) he⟩
theorem lexF_ok (s:List UInt8):∀ (f:Nat) (r:List UInt8) (acc:List Tk) {M:List Tk} {z:Tk},(∀ t∈acc,SgOk t)→lexF s f r acc=(0,M,z)→RowOk M∧M.length≤acc.length+r.length+1
  | 0,r,acc,M,z,_,h=>by simp [lexF] at h
  | f+1,r,acc,M,z,ha,h=>by
    rw [lexF] at h;simp only at h;have hs:=(past_suf r).length_le;split at h
    · simp at h
    · split at h
      · simp only [Prod.mk.injEq,true_and] at h
        obtain ⟨rfl,_⟩:=h;exact ⟨row_all ha rfl,by simp⟩
      · split at h
        · rename_i hx
          obtain ⟨⟨x1,k,v,n⟩,hq⟩:∃ q,sgn (past r).2=q:=⟨_,rfl⟩;have hx:x1=0:=by rw [hq] at hx;exact hx
          subst hx;rw [hq] at h;have hok:=sgn_ok hq (plAt s (past r).2).1 (plAt s (past r).2).2;have hl:=sgn_len hq;have ih:=lexF_ok s f _ _ (fun t ht=>by
            rcases List.mem_append.1 ht with ht|ht
            · exact ha t ht
            · simp only [List.mem_cons,List.not_mem_nil,or_false] at ht
              rw [ht];exact hok) h
          refine ⟨ih.1,?_⟩;have h2:=ih.2;simp only [List.length_append,List.length_cons,List.length_nil,List.length_drop] at h2;omega
        · rename_i hx
          simp only [Prod.mk.injEq] at h;exact absurd h.1 hx
theorem lex_ok {s:List UInt8} (h:(lex s).1=0):RowOk (lex s).2.1∧(lex s).2.1.length≤s.length+1:=by
  obtain ⟨⟨e,M,z⟩,hq⟩:∃ q,lex s=q:=⟨_,rfl⟩;rw [hq] at h ⊢;have h:e=0:=h;subst h;unfold lex at hq;split at hq
  · simp at hq
  · have:=lexF_ok s _ _ _ (fun t ht=>by cases ht) hq
    simpa using this
def mC (n:Int) (t:Tk):List Value:=[.int .i64 n,.int .i64 0,.string ⟨#[]⟩,.int .i64 0,.int .i64 t.line,.int .i64 t.col]
theorem ta_yes (n:Int) (l c:Nat) (w:World):(Instr.typeAssert (.iface 69 (.agg #[.int .i64 n,.int .i64 0,.string ⟨#[]⟩,.int .i64 0,.int .i64 l,.int .i64 c])) 20 69 true).run Tryz.prog w=.ok (.tuple #[.agg #[.int .i64 n,.int .i64 0,.string ⟨#[]⟩,.int .i64 0,.int .i64 l,.int .i64 c],.bool true]) w:=by kernel_rfl
theorem ta_no (w:World):(Instr.typeAssert .nilIface 20 69 true).run Tryz.prog w=.ok (.tuple #[.agg #[.int .i64 0,.int .i64 0,.string ⟨#[]⟩,.int .i64 0,.int .i64 0,.int .i64 0],.bool false]) w:=by kernel_rfl
theorem catch_any (n:Int) (t:Tk) {g2 g3 g4:Nat} {v2 v3 v4:List Value} {w:World} (h2:Box w g2 0 v2) (h3:Box w g3 0 v3) (h4:Box w g4 0 v4) (l2:v2.length=3) (l3:v3.length=1) (l4:v4.length=5) (h23:g2≠g3) (h24:g2≠g4) (h34:g3≠g4) {B:Nat} (b2:B≤g2) (b3:B≤g3) (b4:B≤g4) :
  CallsD Tryz.prog 24 #[.pointer (some ⟨g2,0,none⟩),.pointer (some ⟨g3,0,none⟩),.pointer (some ⟨g4,0,none⟩)] (.panicking [{v:=mis n t,recovered:=false}]) w fun e u' w'=>
   e=.returned (.tuple #[])∧u'=.panicking [{v:=mis n t,recovered:=true}]∧Box w' g2 0 (gC ⟨[],⟨none,0,0⟩,⟨none,0,0⟩⟩)∧Box w' g3 0 [.int .i64 n]∧Box w' g4 0 (tC ⟨0,[],0,t.line,t.col⟩)∧Below B w w':=by
 refine callsD_of_wpS Tryz.func24 rfl fun c₀ cs hu=>?_
 apply wpS_seq
 apply wpS_region
 simp [wpOpsS,go_sem,recoverD,hu,Tryz.ntmps24,Exit.thenS];refine wpS_of_wp ?_;obtain ⟨M,hM⟩:∃ M,mis n t=M:=⟨_,rfl⟩;rw [hM];have ht:(#[Value.pointer (some ⟨g2,0,none⟩),.pointer (some ⟨g3,0,none⟩),.pointer (some ⟨g4,0,none⟩)]++((Array.replicate 18 undef).setIfInBounds 3 M).setIfInBounds 0 M)=#[Value.pointer (some ⟨g2,0,none⟩),.pointer (some ⟨g3,0,none⟩),.pointer (some ⟨g4,0,none⟩),M,undef,undef,M,undef,undef,undef,undef,undef,undef,undef,undef,undef,undef,undef,undef,undef,undef]:=rfl;rw [ht];clear ht;have X2:=qh h2;have X3:=qh h3;have X4:=qh h4;have q2:=lt_of_cell (show w.cell? ⟨g2,0,none⟩=some (v2[0]'(by omega)) by cases v2 with|nil=>simp at l2|cons a b=>exact h2.1);have q3:=lt_of_cell (show w.cell? ⟨g3,0,none⟩=some (v3[0]'(by omega)) by cases v3 with|nil=>simp at l3|cons a b=>exact h3.1);have q4:=lt_of_cell (show w.cell? ⟨g4,0,none⟩=some (v4[0]'(by omega)) by cases v4 with|nil=>simp at l4|cons a b=>exact h4.1);clear h2 h3 h4;unfold mis at hM;subst hM;have ta:=ta_yes n t.line t.col;go_upto_region 3 with (fail)
 obtain ⟨hb,hx,hz⟩:=znew w #[.int .i64 n,.int .i64 0,.string ⟨#[]⟩,.int .i64 0,.int .i64 t.line,.int .i64 t.col] 69;generalize w.alloc (.cells #[.int .i64 n,.int .i64 0,.string ⟨#[]⟩,.int .i64 0,.int .i64 t.line,.int .i64 t.col] 69)=w1 at *;have Y2:=qh (X2.out.below hb q2);have Y3:=qh (X3.out.below hb q3);have Y4:=qh (X4.out.below hb q4);have G1:=qh (hb.mono (show B≤w.heap.size by omega));have hx:Box w1 w.heap.size 0 (mC n t):=hx;have X5:=qh hx;clear hb hx X2 X3 X4;refine wp_region_T (by kernel_rfl) (fun w'=>Box w' w.heap.size 0 (mC n t)) [] (box_drew X5.out) (fun hHeld=>?_);have hb:=(Below.refl w1.heap.size w1).drew;have hd:w1.drew.heap.size=w1.heap.size:=rfl;generalize w1.drew=w2 at *;have X2:=qh (Y2.out.below hb (by omega));have X3:=qh (Y3.out.below hb (by omega));have X4:=qh (Y4.out.below hb (by omega));have G2:=qh (G1.out.trans (hb.mono (show B≤w1.heap.size by omega)));clear Y2 Y3 Y4 G1 hb;refine wpAnyT_take (i:=0) (v:=.agg (gC ⟨[],⟨none,0,0⟩,⟨none,0,0⟩⟩).toArray) rfl (by kernel_rfl) (by kernel_rfl) (by kernel_rfl) (fun _ _ _ h=>h) (Or.inl ⟨by rfl,?_⟩) (by assumption) ?_
 ·intro w_ hSw;clear hSw;kernel_rfl
 try simp only [lq0,lq7,lq1,lq2,lq3,lq4,lq5,lq6]
 refine tkr (i:=1) rfl ?_;try simp only [lq0,lq7,lq1,lq2,lq3,lq4,lq5,lq6]
 refine wpAnyT_take (i:=2) (v:=.int .i64 n) rfl (by kernel_rfl) (by kernel_rfl) (by kernel_rfl) (fun _ _ _ h=>h) (Or.inl ⟨by rfl,?_⟩) (by assumption) ?_
 ·intro w_ hSw;have hc:=hSw.1;clear hSw;go_simp
 try simp only [lq0,lq7,lq1,lq2,lq3,lq4,lq5,lq6]
 refine tkr (i:=3) rfl ?_;try simp only [lq0,lq7,lq1,lq2,lq3,lq4,lq5,lq6]
 refine wpAnyT_take (i:=4) (v:=.agg (tC ⟨0,[],0,t.line,t.col⟩).toArray) rfl (by kernel_rfl) (by kernel_rfl) (by kernel_rfl) (fun _ _ _ h=>h) (yieldsIf_load_mid (by rfl) 34 (.tmp 16) rfl w.heap.size 1 rfl (tC ⟨0,[],0,t.line,t.col⟩) _ (fun w_ hw_=>Box.range (o:=1) hw_.2.2) rfl rfl (by kernel_rfl)) (by assumption) ?_;try simp only [lq0,lq7,lq1,lq2,lq3,lq4,lq5,lq6]
 refine wpAnyT_ready (rs:=[5]) (by kernel_rfl) (by simp) ?_;refine AllReadyT.cons rfl (fun K hK=>?_) AllReadyT.nil;refine t_store X2.out 25 0 13 rfl rfl rfl (gC ⟨[],⟨none,0,0⟩,⟨none,0,0⟩⟩) rfl rfl l2.symm (by kernel_rfl) (gC_one _) ?_;intro w3 hx hg hs;have Y3:=qh (gr_box hg (by omega) (by omega) X3.out);have Y4:=qh (gr_box hg (by omega) (by omega) X4.out);have Y2:=qh hx;have Y5:=qh (gr_box (vs:=mC n t) hg (by have:=hHeld.1;omega) (by omega) hHeld);have G3:=qh (G2.out.trans (gr_below hg b2 (by have:=G2.out.size;omega)));clear hx hg G2 X2 X3 X4 hHeld;refine hK.out _ _ Y5.out (fun hHeld=>?_);clear hK K;try simp only [lq0,lq7,lq1,lq2,lq3,lq4,lq5,lq6]
 refine wpAnyT_ready (rs:=[6]) (by kernel_rfl) (by simp) ?_;refine AllReadyT.cons rfl (fun K hK=>?_) AllReadyT.nil;refine t_set1 Y3.out (show 0<_ by omega) 28 1 15 rfl rfl rfl (.int .i64 n) rfl rfl rfl (by kernel_rfl) ?_;intro w4 hx hg hs4;have X2:=qh (gr_box hg (by omega) (by omega) Y2.out);have X4:=qh (gr_box hg (by omega) (by omega) Y4.out);have X5:=qh (gr_box (vs:=mC n t) hg (by have:=hHeld.1;omega) (by omega) hHeld);have e3:v3.set 0 (.int .i64 n)=[.int .i64 n]:=by
  match v3,l3 with
  | [a],_=>rfl
 rw [e3] at hx;have X3:=qh hx;have G4:=qh (G3.out.trans (gr_below hg b3 (by have:=G3.out.size;omega)));clear hx hg G3 Y2 Y3 Y4 Y5 hHeld e3;refine hK.out _ _ X5.out (fun hHeld=>?_);clear hK K;try simp only [lq0,lq7,lq1,lq2,lq3,lq4,lq5,lq6]
 refine wpAnyT_ready (rs:=[7]) (by kernel_rfl) (by simp) ?_;refine AllReadyT.cons rfl (fun K hK=>?_) AllReadyT.nil;refine t_store X4.out 34 2 17 rfl rfl rfl (tC ⟨0,[],0,t.line,t.col⟩) rfl rfl l4.symm (by kernel_rfl) (tC_one _) ?_;intro w5 hx hg hs5;have Y2:=qh (gr_box hg (by omega) (by omega) X2.out);have Y3:=qh (gr_box hg (by omega) (by omega) X3.out);have Y5:=qh (gr_box (vs:=mC n t) hg (by have:=hHeld.1;omega) (by omega) hHeld);have Y4:=qh hx;have G5:=qh (G4.out.trans (gr_below hg b4 (by have:=G4.out.size;omega)));clear hx hg G4 X2 X3 X4 X5 hHeld;refine hK.out _ _ Y5.out (fun hHeld=>?_);clear hK K;try simp only [lq0,lq7,lq1,lq2,lq3,lq4,lq5,lq6]
 refine wpAnyT_done (by kernel_rfl) ?_ _;go_wp2;exact ⟨rfl,_,rfl,_,by simp [results,Tryz.results24],rfl,rfl,Y2.out,Y3.out,Y4.out,G5.out⟩
theorem catch_idle (a b c:Value) (w:World) :
  CallsD Tryz.prog 24 #[a,b,c] .returning w fun e u' w'=>e=.returned (.tuple #[])∧u'=.returning∧Below w.heap.size w w':=by
 refine callsD_of_wpS Tryz.func24 rfl fun c₀ cs hu=>?_
 apply wpS_seq
 apply wpS_region
 simp [wpOpsS,go_sem,recoverD,hu,Tryz.ntmps24,Exit.thenS];refine wpS_of_wp ?_;have ht:(#[a,b,c]++((Array.replicate 18 undef).setIfInBounds 3 Value.nilIface).setIfInBounds 0 Value.nilIface)=#[a,b,c,.nilIface,undef,undef,.nilIface,undef,undef,undef,undef,undef,undef,undef,undef,undef,undef,undef,undef,undef,undef]:=rfl;rw [ht];clear ht;have ta:=ta_no;go_wp2;exact ⟨rfl,.returning,by cases c₀;simp_all,_,by simp [results,Tryz.results24],rfl,rfl,(Below.refl _ _).alloc (Nat.le_refl _) _⟩
def GotG (s:ByteArray) (w:World) (e:Ending) (w':World):Prop:=
 ∃ h:GH,e=.returned (.tuple #[.agg (gC h).toArray,.int .i64 (parse s.data.toList).2.1,.agg (tC (parse s.data.toList).2.2).toArray])∧PgAt w' w'.heap.size (parse s.data.toList).1 h∧Below w.heap.size w w'
theorem three_new (w:World) (c1 c2 c3:Array Value) (t1 t2 t3:TypeId):∃ W,((w.alloc (.cells c1 t1)).alloc (.cells c2 t2)).alloc (.cells c3 t3)=W∧Box W w.heap.size 0 c1.toList∧Box W (w.heap.size+1) 0 c2.toList∧Box W (w.heap.size+1+1) 0 c3.toList∧Below w.heap.size w W∧W.heap.size=w.heap.size+1+1+1:=by
 have z1:(w.alloc (.cells c1 t1)).heap.size=w.heap.size+1:=by simp
 have z2:((w.alloc (.cells c1 t1)).alloc (.cells c2 t2)).heap.size=w.heap.size+1+1:=by simp
 have b1:=(Below.refl w.heap.size w).alloc (Nat.le_refl _) (.cells c1 t1);have b2:=(Below.refl (w.alloc (.cells c1 t1)).heap.size _).alloc (Nat.le_refl _) (.cells c2 t2);have b3:=(Below.refl ((w.alloc (.cells c1 t1)).alloc (.cells c2 t2)).heap.size _).alloc (Nat.le_refl _) (.cells c3 t3);have x1:=Box.new w c1 t1;have x2:=Box.new (w.alloc (.cells c1 t1)) c2 t2;have x3:=Box.new ((w.alloc (.cells c1 t1)).alloc (.cells c2 t2)) c3 t3;rw [z1] at b2 x2;rw [z2] at b3 x3;exact ⟨_,rfl,(x1.below b2 (by omega)).below b3 (by omega),x2.below b3 (by omega),x3,(b1.trans (b2.mono (by omega))).trans (b3.mono (by omega)),by simp⟩
section
variable {P:Program} {ops:Array Oper} {rest:List Oper} {op:Oper} {a:Act} {w:World} {Q:Exit→Act→World→Prop}
theorem m_set1 {g:Nat} {vs:List Value} (hb:k.Box w g 0 vs) (T t:Nat) (u:Operand) (ho:op.op=.store T (.tmp t) u) (hg:op.guard=none) (hd:op.dst=none) (v:Value) (hx:a.eval (.tmp t)=.pointer (some ⟨g,0,none⟩)) (hy:a.eval u=v) (hl:vs.length=1) (h1:v.oneCell'=true) (hi:(P.info? T).map (·.size)=some 1)
  (h:∀ w',k.Box w' g 0 [v]→w.grownBy w' (some g)→w'.heap.size=w.heap.size→wpList P ops Q rest a w'):wpList P ops Q (op::rest) a w:=by
 have hc:v.cells=#[v]:=by cases v<;>first|rfl|cases h1
 obtain ⟨u0,rfl⟩:∃ u0,vs=[u0]:=by
  match vs,hl with
  | [u0],_=>exact ⟨u0,rfl⟩
 have hst:(storeVar T ⟨g,0,none⟩ v).run P w=.ok () (w.setCells g 0 [v]):=by
  have hrun:=run_storeCells_cells (P:=P) g 0 [v] 0 w (fun i hi'=>by
   have:i=0:=by simpa using hi'
   subst this
   show (w.cell? ⟨g,0,none⟩).isSome=true
   rw [hb.1];rfl) (fun i hi'=>by
   have:i=0:=by simpa using hi'
   subst this;exact hb.2.1) (fun x hx'=>by
   simp only [List.mem_cons,List.not_mem_nil,or_false] at hx';subst hx';exact h1)
  simp only [Nat.add_zero] at hrun;cases hq:P.info? T with
  | none=>simp [hq] at hi
  | some i=>
   have hs:i.size=1:=by simpa [hq] using hi
   simp [storeVar,sizeOf,typeInfo,hq,hc,hs,hrun]
 refine wpList_plain hg fun K hK=>?_
 unfold Oper.wp execOp;simp only [ho,hx,hy,Instr.storeAt,Instr.sureAddr,Sem.run_bind,Sem.run_pure,Result.andThen_ok,hst];have hput:a.put op.dst undef=a:=by rw [hd];rfl
 refine hK _ _ ?_;rw [hput];exact h _ (Box.put hb 0 (by simp) v) (gr_set w g 0 v) (set_size _ _ _)
end
def NoP (Q:Exit→Act→World→Prop):Exit→Act→World→Prop
 | .panic _,_,_=>False
 | e,a,w=>Q e a w
section
variable {P:Program} {ops:Array Oper} {a:Act} {w:World} {Q:Exit→Act→World→Prop} {T:World→Prop} {sp:List Nat}
theorem region_np {c:Code} (h:c.wp P (NoP Q) a w):c.wp P Q a w:=wp_mono h fun e _ _ hq=>by
 cases e<;>first|exact hq|exact hq.elim
theorem doneT_np {listed:Array Bool} {md:Region.Mode} (hr:Region.ready md ops listed=[]) (h:Q .normal a w) (fuel:Nat):wpAnyT P md ops (NoP Q) T sp fuel listed a w:=wpAnyT_done (Q:=NoP Q) hr h fuel
theorem results_ccc {fn:Func} {t u c:Tmp} {T U V:TypeId} (h:fn.results=#[.cell t T,.cell u U,.cell c V]) {tmps:Array Value} {w:World} {b b2 b3:Nat} {v v2 v3:Value} (ht:tmps.getD t undef=.pointer (some ⟨b,0,none⟩)) (hu:tmps.getD u undef=.pointer (some ⟨b2,0,none⟩)) (hc:tmps.getD c undef=.pointer (some ⟨b3,0,none⟩))
  (hl:(loadVar T ⟨b,0,none⟩).run P w=.ok v w) (hl2:(loadVar U ⟨b2,0,none⟩).run P w=.ok v2 w) (hl3:(loadVar V ⟨b3,0,none⟩).run P w=.ok v3 w):(results fn tmps).run P w=.ok (.tuple #[v,v2,v3]) w:=by
 have ha:∀ b,(asAddr (.pointer (some ⟨b,0,none⟩)):Sem Addr)=pure ⟨b,0,none⟩:=fun _=>rfl
 have h1:tmps[t]?.getD undef=.pointer (some ⟨b,0,none⟩):=by rw [←ht];simp
 have h2:tmps[u]?.getD undef=.pointer (some ⟨b2,0,none⟩):=by rw [←hu];simp
 have h3:tmps[c]?.getD undef=.pointer (some ⟨b3,0,none⟩):=by rw [←hc];simp
 rw [results,h];simp [h1,h2,h3,ha,hl,hl2,hl3]
end
theorem pgAt_none (w:World) (B:Nat):PgAt w B zeroG ⟨[],⟨none,0,0⟩,⟨none,0,0⟩⟩:=⟨rfl,Rd.none_ _ _ _ _,[],Rd.none_ _ _ _ _,by simp [StsAt,zeroG]⟩
theorem rd_rb {α:Type} {enc:α→List Value} {z:Nat} {w:World} {B n c lo:Nat} {A:Option Addr} {L:List α} (h:Rd enc z w B A n c L) (hq:∀ q,(Value.slice A n c).ownBlock=some q→lo≤q):RB enc z w (Nw lo B) ⟨A,n,c⟩ L:=by
 refine ⟨h.1,h.2.1,h.2.2.1,h.2.2.2.1,fun hn=>?_⟩;obtain ⟨b,off,e,hb,hc⟩:=h.2.2.2.2 hn;subst e;exact ⟨b,off,rfl,⟨hq b rfl,hb⟩,hc⟩
theorem rc_one (A:Option Addr) (n c:Nat):∀ u∈[Value.slice A n c,.slice none 0 0,.int .i64 0],u.oneCell'=true:=by
 intro u hu;simp only [List.mem_cons,List.not_mem_nil,or_false] at hu;rcases hu with rfl|rfl|rfl<;>rfl
theorem bd_tok (w:World):(Instr.build 34 #[]).run Tryz.prog w=.ok (.agg (tC zeroT).toArray) w:=by kernel_rfl
theorem parse_no {s:Str} (h:(lex s).1≠0):parse s=(zeroG,(lex s).1,(lex s).2.2):=by
 unfold parse;rw [if_neg h]
theorem parse_yes {s:Str} (h:(lex s).1=0) {p:Pg} {r:Sg} (hp:progP (20*(lex s).2.1.length+20) (lex s).2.1=.ok p r):parse s=(p,0,zeroT):=by
 unfold parse;rw [if_pos h,hp]
theorem parse_mis {s:Str} (h:(lex s).1=0) {n:Int} {t:Tk} (hp:progP (20*(lex s).2.1.length+20) (lex s).2.1=.bad n t):parse s=(zeroG,n,⟨0,[],0,t.line,t.col⟩):=by
 unfold parse;rw [if_pos h,hp]
theorem parse_any (s:ByteArray) (hs:s.size≤16384) (w:World) (hM:MaxL w):Calls Tryz.prog 10 #[.string s] w (GotG s w):=by
 obtain ⟨R,hR⟩:∃ R,parse s.data.toList=R:=⟨_,rfl⟩;have HR:=qh hR;have GOT:=qh (show ∀ e w',(∃ h:GH,e=.returned (.tuple #[.agg (gC h).toArray,.int .i64 R.2.1,.agg (tC R.2.2).toArray])∧PgAt w' w'.heap.size R.1 h∧Below w.heap.size w w')→GotG s w e w' from fun e w' h=>by subst hR;exact h);generalize hGG:GotG s w=GG at *;clear hGG hR;have hmf:∀ (fn:Fn) (first cap:Array Value) (w:World),(Instr.makeFunc fn first cap).run Tryz.prog w=.ok (.func fn first cap) w:=fun _ _ _ _=>rfl
 go_enter_defers Tryz.func10,Tryz.ntmps10
 go_upto_region 1 with (fail)
 obtain ⟨w1,e1,x2,x3,x4,b1,z1⟩:=three_new w #[.string ⟨#[]⟩,.slice none 0 0,.slice none 0 0] #[.int .i64 0] #[.int .i64 0,.string ⟨#[]⟩,.int .i64 0,.int .i64 0,.int .i64 0] 25 28 34;rw [e1];clear e1;have M1:=qh (hM.below b1);have X2:=qh x2;have X3:=qh x3;have X4:=qh x4;have G1:=qh b1;have Z1:=qh z1;clear x2 x3 x4 b1 z1 hM;go_wp2_with (go_at_call 23;fail)
 refine (lex_any s (by omega) w1 M1.out).mono ?_;rintro e w2 ⟨A,n,c,rfl,hrd,hb,hnq⟩;have HRD:=qh (rd_rb hrd hnq);have HN:=qh hrd.1;clear hrd hnq;have Y2:=qh (X2.out.below hb (by have:=Z1.out;omega));have Y3:=qh (X3.out.below hb (by have:=Z1.out;omega));have Y4:=qh (X4.out.below hb (by have:=Z1.out;omega));have G2:=qh (G1.out.trans (hb.mono (by have:=Z1.out;omega)));have Z2:=qh (show w.heap.size+1+1+1≤w2.heap.size by have:=Z1.out;have:=hb.size;omega);have ZR:=qh Z1.out;clear hb X2 X3 X4 G1 M1 Z1;by_cases hl:(lex s.data.toList).1=0
 rotate_left
 ·have hp:=parse_no hl
  rw [HR.out] at hp;have HP:=qh hp;have HL:=qh hl;clear hp;generalize (lex s.data.toList).1=n1 at *;generalize (lex s.data.toList).2.2=t1 at *;clear HRD HN HR;go_upto_region 2 with (first|((with_reducible refine m_set1 Y3.out 28 3 (.tmp 11) ?_ ?_ ?_ (.int .i64 n1) ?_ ?_ ?_ ?_ ?_ ?_);rfl;rfl;rfl;rfl;rfl;rfl;rfl;kernel_rfl;intro w3 hx3 hg3 hs3;have X4:=qh (gr_box hg3 (by have:=Z2.out;omega) (by omega) Y4.out))|((with_reducible refine m_store X4.out 34 4 12 ?_ ?_ ?_ (tC t1) ?_ ?_ ?_ ?_ (tC_one _) ?_);rfl;rfl;rfl;rfl;rfl;rfl;kernel_rfl;intro w4 hx4 hg4 hs4))
  have hs3:w3.heap.size=w2.heap.size:=hs3;have H4:=qh hx4;have H3:=qh (gr_box hg4 (by have:=Z2.out;omega) (by omega) hx3);have H2:=qh (gr_box hg4 (by have:=Z2.out;omega) (by omega) (gr_box hg3 (by have:=Z2.out;omega) (by omega) Y2.out));have G4:=qh ((G2.out.trans (gr_below hg3 (by omega) (by have:=Z2.out;omega))).trans (gr_below hg4 (by omega) (by have:=Z2.out;omega)));have Z4:=qh (show w.heap.size+1+1+1≤w4.heap.size by have:=Z2.out;omega);clear hx3 hg3 hx4 hg4 hs3 hs4 Y2 Y3 Y4 X4 G2 Z2;have hnz:=HL.out;have hc3:=H3.out.1;go_upto_region 3 with (fail)
  clear hc3 hnz;refine region_np ?_;refine wp_region_T (by kernel_rfl) (fun w'=>Box w' (w.heap.size+1) 0 [.int .i64 n1]∧Box w' (w.heap.size+1+1) 0 (tC t1)) [] ⟨box_drew H3.out,box_drew H4.out⟩ (fun hHeld=>?_);have hb:=(Below.refl w4.heap.size w4).drew;have hz5:w4.drew.heap.size=w4.heap.size:=rfl;generalize w4.drew=w5 at *;have X2:=qh (H2.out.below hb (by have:=Z4.out;omega));have G5:=qh (G4.out.trans (hb.mono (by have:=Z4.out;omega)));have Z5:=qh (show w.heap.size+1+1+1≤w5.heap.size by have:=Z4.out;omega);clear H2 H3 H4 G4 Z4 hb hz5;refine wpAnyT_take (i:=0) (v:=.agg (gC ⟨[],⟨none,0,0⟩,⟨none,0,0⟩⟩).toArray) rfl (by kernel_rfl) (by kernel_rfl) (by kernel_rfl) (fun _ _ _ h=>h) (Or.inl ⟨by rfl,?_⟩) (by assumption) ?_
  ·intro w_ hSw;clear hSw;kernel_rfl
  try simp only [lq0,lq7,lq1,lq2,lq3,lq4,lq5,lq6]
  refine wpAnyT_take (i:=1) (v:=.int .i64 n1) rfl (by kernel_rfl) (by kernel_rfl) (by kernel_rfl) (fun _ _ _ h=>h) (Or.inl ⟨by rfl,?_⟩) (by assumption) ?_
  ·intro w_ hSw;have hc:=hSw.1.1;clear hSw;go_simp
  try simp only [lq0,lq7,lq1,lq2,lq3,lq4,lq5,lq6]
  refine wpAnyT_take (i:=2) (v:=.agg (tC t1).toArray) rfl (by kernel_rfl) (by kernel_rfl) (by kernel_rfl) (fun _ _ _ h=>h) (yieldsIf_load_mid (by rfl) 34 (.tmp 4) rfl (w.heap.size+1+1) 0 rfl (tC t1) _ (fun w_ hw_=>Box.range hw_.2) rfl rfl (by kernel_rfl)) (by assumption) ?_;try simp only [lq0,lq7,lq1,lq2,lq3,lq4,lq5,lq6]
  refine wpAnyT_ready (rs:=[3]) (by kernel_rfl) (by simp) ?_;refine AllReadyT.cons rfl (fun K hK=>?_) AllReadyT.nil;refine t_store X2.out 25 2 15 rfl rfl rfl (gC ⟨[],⟨none,0,0⟩,⟨none,0,0⟩⟩) rfl rfl rfl (by kernel_rfl) (gC_one _) ?_;intro w6 hx hg hs6;have Y2:=qh hx;have Y34:=qh (⟨gr_box hg (by have:=Z5.out;omega) (by omega) hHeld.1,gr_box hg (by have:=Z5.out;omega) (by omega) hHeld.2⟩:Box w6 (w.heap.size+1) 0 [.int .i64 n1]∧Box w6 (w.heap.size+1+1) 0 (tC t1));have G6:=qh (G5.out.trans (gr_below hg (Nat.le_refl _) (by have:=Z5.out;omega)));have Z6:=qh (show w.heap.size+1+1+1≤w6.heap.size by have:=Z5.out;omega);clear hx hg G5 Z5 X2 hHeld hs6;refine hK.out _ _ Y34.out (fun hHeld=>?_);clear hK K;try simp only [lq0,lq7,lq1,lq2,lq3,lq4,lq5,lq6]
  refine wpAnyT_ready (rs:=[4]) (by kernel_rfl) (by simp) ?_;refine AllReadyT.cons rfl (fun K hK=>?_) AllReadyT.nil;refine t_set1 Y34.out.1 (show 0<1 by omega) 28 3 16 rfl rfl rfl (.int .i64 n1) rfl rfl rfl (by kernel_rfl) ?_;intro w7 hx hg hs7;have X2:=qh (gr_box hg (by have:=Z6.out;omega) (by omega) Y2.out);have X34:=qh (⟨hx,gr_box hg (by have:=Z6.out;omega) (by omega) hHeld.2⟩:Box w7 (w.heap.size+1) 0 [.int .i64 n1]∧Box w7 (w.heap.size+1+1) 0 (tC t1));have G7:=qh (G6.out.trans (gr_below hg (by omega) (by have:=Z6.out;omega)));have Z7:=qh (show w.heap.size+1+1+1≤w7.heap.size by have:=Z6.out;omega);clear hx hg G6 Z6 Y2 Y34 hHeld hs7;refine hK.out _ _ X34.out (fun hHeld=>?_);clear hK K;try simp only [lq0,lq7,lq1,lq2,lq3,lq4,lq5,lq6]
  refine wpAnyT_ready (rs:=[5]) (by kernel_rfl) (by simp) ?_;refine AllReadyT.cons rfl (fun K hK=>?_) AllReadyT.nil;refine t_store X34.out.2 34 4 17 rfl rfl rfl (tC t1) rfl rfl rfl (by kernel_rfl) (tC_one _) ?_;intro w8 hx hg hs8;have Y2:=qh (gr_box hg (by have:=Z7.out;omega) (by omega) X2.out);have Y34:=qh (⟨gr_box hg (by have:=Z7.out;omega) (by omega) hHeld.1,hx⟩:Box w8 (w.heap.size+1) 0 [.int .i64 n1]∧Box w8 (w.heap.size+1+1) 0 (tC t1));have G8:=qh (G7.out.trans (gr_below hg (by omega) (by have:=Z7.out;omega)));clear hx hg G7 Z7 X2 X34 hHeld hs8;refine hK.out _ _ Y34.out (fun hHeld=>?_);clear hK K;try simp only [lq0,lq7,lq1,lq2,lq3,lq4,lq5,lq6]
  refine doneT_np (by kernel_rfl) ?_ _;go_wp2;refine ⟨_,results_ccc (b:=w.heap.size) (b2:=w.heap.size+1) (b3:=w.heap.size+1+1) (v2:=.int .i64 n1) rfl rfl rfl rfl (run_loadVar_mid _ _ 0 25 _ _ Y2.out.range rfl rfl (by kernel_rfl)) (by have hc:=Y34.out.1.1;simp [go_sem,hc]) (run_loadVar_mid _ _ 0 34 _ _ Y34.out.2.range rfl rfl (by kernel_rfl)),GOT.out _ _ ?_⟩;rw [HP.out];exact ⟨⟨[],⟨none,0,0⟩,⟨none,0,0⟩⟩,rfl,pgAt_none _ _,G8.out⟩
 have hr:=(lex_ok hl).1;have hln:=(lex_ok hl).2;have hsz:(lex s.data.toList).2.1.length≤16385:=by
  have:s.data.toList.length=s.size:=Array.length_toList;omega
 clear hln;obtain ⟨L,hL⟩:∃ L,(lex s.data.toList).2.1=L:=⟨_,rfl⟩;have PY:=qh (fun p r (hp:progP (20*L.length+20) L=.ok p r)=>HR.out.symm.trans (parse_yes hl (by rw [hL];exact hp)));have PM:=qh (fun n t (hp:progP (20*L.length+20) L=.bad n t)=>HR.out.symm.trans (parse_mis hl (by rw [hL];exact hp)));rw [hL] at hr hsz;rw [hL] at HRD HN;have hn:n=L.length:=HN.out.symm;subst hn;have HOK:=qh hr;have HSZ:=qh hsz;clear hr hsz hL HR HN;rw [hl];clear hl;generalize (lex s.data.toList).2.2=t1 at *;go_upto_region 2 with (first|((with_reducible refine m_set1 Y3.out 28 3 (.tmp 11) ?_ ?_ ?_ (.int .i64 0) ?_ ?_ ?_ ?_ ?_ ?_);rfl;rfl;rfl;rfl;rfl;rfl;rfl;kernel_rfl;intro w3 hx3 hg3 hs3;have X4:=qh (gr_box hg3 (by have:=Z2.out;omega) (by omega) Y4.out))|((with_reducible refine m_store X4.out 34 4 12 ?_ ?_ ?_ (tC t1) ?_ ?_ ?_ ?_ (tC_one _) ?_);rfl;rfl;rfl;rfl;rfl;rfl;kernel_rfl;intro w4 hx4 hg4 hs4))
 have hs3:w3.heap.size=w2.heap.size:=hs3;have H4:=qh hx4;have H3:=qh (gr_box hg4 (by have:=Z2.out;omega) (by omega) hx3);have H2:=qh (gr_box hg4 (by have:=Z2.out;omega) (by omega) (gr_box hg3 (by have:=Z2.out;omega) (by omega) Y2.out));have G4:=qh ((G2.out.trans (gr_below hg3 (by omega) (by have:=Z2.out;omega))).trans (gr_below hg4 (by omega) (by have:=Z2.out;omega)));have Z4:=qh (show w.heap.size+1+1+1≤w4.heap.size by have:=Z2.out;omega);have HD:=qh (RB.kept ((kept_nw hg3 (b:=w2.heap.size) (a:=w1.heap.size) (b':=w2.heap.size) (a':=w1.heap.size) (by have:=ZR.out;omega) (Nat.le_refl _) (Nat.le_refl _) (Nat.le_refl _)).trans (kept_nw hg4 (by have:=ZR.out;omega) (by omega) (Nat.le_refl _) (Nat.le_refl _))) HRD.out);have ZQ:=qh (show w2.heap.size≤w4.heap.size by omega);clear hx3 hg3 hx4 hg4 hs3 hs4 Y2 Y3 Y4 X4 G2 Z2 HRD ZR;have hc3:=H3.out.1;go_upto_region 4 with (fail)
 clear hc3;go_upto_region 5 with (fail)
 go_upto_region 6 with ((with_reducible refine m_new 72 6 20 ?_ ?_ ?_ [.slice A L.length c,.slice none 0 0,.int .i64 0] ?_ ?_ ?_ ?_ (rc_one _ _ _) ?_);rfl;rfl;rfl;rfl;rfl;rfl;kernel_rfl;intro w5 hx5 hb5 hz5)
 have X2:=qh (H2.out.below hb5 (by have:=Z4.out;omega));have X3:=qh (H3.out.below hb5 (by have:=Z4.out;omega));have X4:=qh (H4.out.below hb5 (by have:=Z4.out;omega));have G5:=qh (G4.out.trans (hb5.mono (by have:=Z4.out;omega)));have P5:=qh (⟨A,c,hx5,RB.toAt (fun b (hb:Nw w1.heap.size w2.heap.size b)=>by have:=hb.2;have:=ZQ.out;omega) (RB.kept (Kept.below hb5 (fun b (hb:Nw w1.heap.size w2.heap.size b)=>⟨by have:=hb.2;have:=ZQ.out;omega,hb⟩)) HD.out)⟩:Par w5 w4.heap.size L (.slice none 0 0) 0);clear H2 H3 H4 G4 hx5 hb5 HD;go_wp2_with (go_at_call 25;fail)
 refine (program_any (f:=20*L.length+20) P5.out HOK.out (by have:=HSZ.out;omega) (by omega)).mono ?_;rintro e w6 hgv;rcases hp:progP (20*L.length+20) L with ⟨x8,r8⟩|⟨n9,t9⟩
 rotate_left
 ·rw [hp] at hgv
  obtain ⟨rfl,hb⟩:=hgv;have HR:=PM.out _ _ hp;have Y2:=qh (X2.out.below hb (by have:=Z4.out;omega));have Y3:=qh (X3.out.below hb (by have:=Z4.out;omega));have Y4:=qh (X4.out.below hb (by have:=Z4.out;omega));have G6:=qh (G5.out.trans (hb.mono (by have:=Z4.out;omega)));clear hb hp;go_wp2;refine leaves_cons (f:=24) (args:=#[.pointer (some ⟨w.heap.size,0,none⟩),.pointer (some ⟨w.heap.size+1,0,none⟩),.pointer (some ⟨w.heap.size+1+1,0,none⟩)]) (by simp) (by simp [go_sem]) ?_;refine (catch_any n9 t9 (B:=w.heap.size) Y2.out Y3.out Y4.out rfl rfl rfl (by omega) (by omega) (by omega) (by omega) (by omega) (by omega)).mono ?_;rintro e u' w7 ⟨rfl,rfl,h2,h3,h4,hb7⟩
  show Leaves _ _ _ _ [] .returning _
  refine ⟨_,results_ccc (b:=w.heap.size) (b2:=w.heap.size+1) (b3:=w.heap.size+1+1) (v2:=.int .i64 n9) rfl rfl rfl rfl (run_loadVar_mid _ _ 0 25 _ _ h2.range rfl rfl (by kernel_rfl)) (by have hc:=h3.1;simp [go_sem,hc]) (run_loadVar_mid _ _ 0 34 _ _ h4.range rfl rfl (by kernel_rfl)),GOT.out _ _ ?_⟩;rw [HR];exact ⟨⟨[],⟨none,0,0⟩,⟨none,0,0⟩⟩,rfl,pgAt_none _ _,G6.out.trans hb7⟩
 rw [hp] at hgv;obtain ⟨⟨h8,rfl,hpg⟩,hb⟩:=hgv;have HR:=qh (PY.out _ _ hp);have Y2:=qh (X2.out.below hb (by have:=Z4.out;omega));have Y3:=qh (X3.out.below hb (by have:=Z4.out;omega));have Y4:=qh (X4.out.below hb (by have:=Z4.out;omega));have G6:=qh (G5.out.trans (hb.mono (by have:=Z4.out;omega)));have PG:=qh hpg;have Z6:=qh (show w.heap.size+1+1+1≤w6.heap.size by have:=Z4.out;have:=hb.size;omega);clear hb hp hpg X2 X3 X4 G5 PY PM P5;have BT:=bd_tok;go_wp2_with (first|((with_reducible refine m_store Y2.out 25 2 21 ?_ ?_ ?_ (gC h8) ?_ ?_ ?_ ?_ (gC_one _) ?_);rfl;rfl;rfl;rfl;rfl;rfl;kernel_rfl;intro w7 hx7 hg7 hs7;have X3:=qh (gr_box hg7 (by have:=Z6.out;omega) (by omega) Y3.out))|((with_reducible refine m_set1 X3.out 28 3 (.const (.int .i64 0)) ?_ ?_ ?_ (.int .i64 0) ?_ ?_ ?_ ?_ ?_ ?_);rfl;rfl;rfl;rfl;rfl;rfl;rfl;kernel_rfl;intro w8 hx8 hg8 hs8;have X4:=qh (gr_box hg8 (by have:=Z6.out;omega) (by omega) (gr_box hg7 (by have:=Z6.out;omega) (by omega) Y4.out)))|((with_reducible refine m_store X4.out 34 4 22 ?_ ?_ ?_ (tC zeroT) ?_ ?_ ?_ ?_ (tC_one _) ?_);rfl;rfl;rfl;rfl;rfl;rfl;kernel_rfl;intro w9 hx9 hg9 hs9))
 clear BT;have H2:=qh (gr_box hg9 (by have:=Z6.out;omega) (by omega) (gr_box hg8 (by have:=Z6.out;omega) (by omega) hx7));have H3:=qh (gr_box hg9 (by have:=Z6.out;omega) (by omega) hx8);have H4:=qh hx9;have K7:=gr_below hg7 (Nat.le_refl w.heap.size) (by have:=Z6.out;omega);have K8:=gr_below hg8 (show w.heap.size≤w.heap.size+1 by omega) (by have:=Z6.out;omega);have K9:=gr_below hg9 (show w.heap.size≤w.heap.size+1+1 by omega) (by have:=Z6.out;omega);have G9:=qh (((G6.out.trans K7).trans K8).trans K9);have PG9:=(PG.out.kept (kept_nw hg7 (by have:=Z4.out;have:=Z6.out;omega) (Nat.le_refl _) (Nat.le_refl _) (Nat.le_refl _))).kept ((kept_nw hg8 (by have:=Z4.out;have:=Z6.out;omega) (by have:=Z4.out;have:=Z6.out;omega) (Nat.le_refl _) (Nat.le_refl _)).trans (kept_nw hg9 (by have:=Z4.out;have:=Z6.out;omega) (by have:=Z4.out;have:=Z6.out;omega) (Nat.le_refl _) (Nat.le_refl _)));have PA:=qh (PgB.toAt (B:=w9.heap.size) (fun b (hb:Nw w5.heap.size w6.heap.size b)=>by have:=hb.2;omega) PG9);have Z9:=qh (show w.heap.size+1+1+1≤w9.heap.size by have:=Z6.out;omega);clear PG9 K7 K8 K9 hg7 hg8 hg9 hs7 hs8 hs9 hx7 hx8 hx9 X3 X4 Y2 Y3 Y4 PG G6 Z6;refine leaves_cons (f:=24) (args:=#[.pointer (some ⟨w.heap.size,0,none⟩),.pointer (some ⟨w.heap.size+1,0,none⟩),.pointer (some ⟨w.heap.size+1+1,0,none⟩)]) (by simp) (by simp [go_sem]) ?_;refine (catch_idle _ _ _ _).mono ?_;rintro e u' w10 ⟨rfl,rfl,hb⟩;have X2:=H2.out.below hb (by have:=Z4.out;have:=Z9.out;omega);have X3:=H3.out.below hb (by have:=Z4.out;have:=Z9.out;omega);have X4:=H4.out.below hb (by have:=Z4.out;have:=Z9.out;omega)
 show Leaves _ _ _ _ [] .returning _
 refine ⟨_,results_ccc (b:=w.heap.size) (b2:=w.heap.size+1) (b3:=w.heap.size+1+1) (v2:=.int .i64 0) rfl rfl rfl rfl (run_loadVar_mid _ _ 0 25 _ _ X2.range rfl rfl (by kernel_rfl)) (by have hc:=X3.1;simp [go_sem,hc]) (run_loadVar_mid _ _ 0 34 _ _ X4.range rfl rfl (by kernel_rfl)),GOT.out _ _ ?_⟩;rw [HR.out];exact ⟨h8,rfl,PA.out.below hb hb.size,G9.out.trans (hb.mono (by have:=Z4.out;have:=Z9.out;omega))⟩
end tr
namespace sh
open ChangeShapes WideShapes ChangeAt RowKit k rr tk tr
def Gs (t:Tk):Prop:=(t.kind=1→nmB t.text=true)∧(t.kind=3→0≤t.n∧t.n≤9223372036854775807)
def AllG (r:Sg):Prop:=∀ t∈r,Gs t
theorem take_body:∀ r:Str,(r.take (bodyLen r)).all bodyB=true
 | []=>rfl
 | c::l=>by
  rw [bodyLen];split
  ·rename_i h
   rw [List.take_succ_cons,List.all_cons,h,take_body l];rfl
  ·rfl
theorem alpha_body {c:UInt8} (h:alphaB c=true):bodyB c=true:=by unfold bodyB;rw [h];rfl
theorem sgn_gs {r:Str} {k:Int} {v n:Nat} (h:sgn r=(0,k,v,n)) (l c:Nat):Gs ⟨k,r.take n,v,l,c⟩:=by
 cases r with
 | nil=>simp [sgn] at h
 | cons x q=>
  unfold sgn at h;simp only at h;split at h
  ·rename_i ha
   split at h
   ·cases h
    exact ⟨fun e=>absurd (show (2:Int)=1 from e) (by decide),fun e=>absurd (show (2:Int)=3 from e) (by decide)⟩
   ·split at h
    ·simp at h
    ·rename_i hw he
     simp only [Prod.mk.injEq,true_and] at h;obtain ⟨rfl,rfl,rfl⟩:=h;refine ⟨fun _=>?_,fun e=>absurd (show (1:Int)=3 from e) (by decide)⟩
     show nmB ((x::q).take (bodyLen (x::q)))=true
     have hb:=take_body (x::q);have hl:((x::q).take (bodyLen (x::q))).length≤16:=by rw [List.length_take];omega
     have hn:isWord ((x::q).take (bodyLen (x::q)))=false:=by simpa using hw
     obtain ⟨m,hm⟩:∃ m,bodyLen (x::q)=m+1:=⟨bodyLen q,by rw [bodyLen,if_pos (alpha_body ha)]⟩;rw [hm,List.take_succ_cons] at hb hl hn ⊢
     show (alphaB x&&((x::q.take m).all bodyB&&(decide ((x::q.take m).length≤16)&&!isWord (x::q.take m))))=true
     rw [ha,hb,hn,decide_eq_true hl];rfl
  ·split at h
   ·split at h
    ·rename_i hx
     simp only [Prod.mk.injEq,true_and] at h;obtain ⟨rfl,rfl,rfl⟩:=h;refine ⟨fun e=>absurd (show (3:Int)=1 from e) (by decide),fun _=>⟨Int.natCast_nonneg _,?_⟩⟩;unfold number at hx ⊢;simp only at hx ⊢;split at hx
     ·exact absurd (show (5:Int)=0 from hx) (by decide)
     ·rename_i h1
      rw [if_neg h1];split at hx
      ·exact absurd (show (2:Int)=0 from hx) (by decide)
      ·rename_i h2
       rw [if_neg h2]
       show ((val _ _:Nat):Int)≤9223372036854775807
       omega
    ·simp only [Prod.mk.injEq] at h
     rename_i hx;exact absurd h.1 hx
   ·split at h
    ·simp at h
    ·simp only [Prod.mk.injEq,true_and] at h
     obtain ⟨rfl,rfl,rfl⟩:=h;exact ⟨fun e=>absurd (show (4:Int)=1 from e) (by decide),fun e=>absurd (show (4:Int)=3 from e) (by decide)⟩
theorem lexF_gs (s:Str):∀ (f:Nat) (r:Str) (acc:List Tk) {M:List Tk} {z:Tk},AllG acc→lexF s f r acc=(0,M,z)→AllG M
 | 0,r,acc,M,z,_,h=>by simp [lexF] at h
 | f+1,r,acc,M,z,ha,h=>by
  rw [lexF] at h;simp only at h;split at h
  ·simp at h
  ·split at h
   ·simp only [Prod.mk.injEq,true_and] at h
    obtain ⟨rfl,_⟩:=h;intro t ht;rcases List.mem_append.1 ht with ht|ht
    ·exact ha t ht
    ·simp only [List.mem_cons,List.not_mem_nil,or_false] at ht
     rw [ht];exact ⟨fun e=>absurd (show (0:Int)=1 from e) (by decide),fun e=>absurd (show (0:Int)=3 from e) (by decide)⟩
   ·split at h
    ·rename_i hx
     obtain ⟨⟨x1,k,v,n⟩,hq⟩:∃ q,sgn (past r).2=q:=⟨_,rfl⟩;have hx:x1=0:=by rw [hq] at hx;exact hx
     subst hx;rw [hq] at h;exact lexF_gs s f _ _ (fun t ht=>by
      rcases List.mem_append.1 ht with ht|ht
      ·exact ha t ht
      ·simp only [List.mem_cons,List.not_mem_nil,or_false] at ht
       rw [ht];exact sgn_gs hq _ _) h
    ·rename_i hx
     simp only [Prod.mk.injEq] at h;exact absurd h.1 hx
theorem lex_gs {s:Str} (h:(lex s).1=0):AllG (lex s).2.1:=by
 obtain ⟨⟨e,M,z⟩,hq⟩:∃ q,lex s=q:=⟨_,rfl⟩;rw [hq] at h ⊢;have h:e=0:=h;subst h;unfold lex at hq;split at hq
 ·simp at hq
 ·exact lexF_gs s _ _ _ (fun t ht=>by cases ht) hq
def Fit {α:Type} (P:α→Nat→Prop) (p:Res α):Prop:=match p with
 | .ok x r=>AllG r∧P x r.length
 | .bad _ _=>True
theorem Fit.bind {α β:Type} {P:α→Nat→Prop} {Q:β→Nat→Prop} {p:Res α} {f:α→Sg→Res β} (h:Fit P p) (hf:∀ x r,AllG r→P x r.length→Fit Q (f x r)):Fit Q (p.bind f):=by
 cases p with
 | ok x r=>exact hf x r h.1 h.2
 | bad e t=>trivial
theorem Fit.mono {α:Type} {P Q:α→Nat→Prop} {p:Res α} (h:Fit P p) (hq:∀ x n,P x n→Q x n):Fit Q p:=by
 cases p with
 | ok x r=>exact ⟨h.1,hq _ _ h.2⟩
 | bad e t=>trivial
theorem AllG.drop {r:Sg} (h:AllG r) (n:Nat):AllG (r.drop n):=fun t ht=>h t (List.mem_of_mem_drop ht)
theorem AllG.hd {r:Sg} (h:AllG r):Gs (tr.hd r):=by
 cases r with
 | nil=>exact ⟨fun e=>absurd (show (0:Int)=1 from e) (by decide),fun e=>absurd (show (0:Int)=3 from e) (by decide)⟩
 | cons t r=>exact h t (List.mem_cons_self ..)
theorem txt_len {r:Sg} {s:Str} (h:txt r=s) (h0:s≠[]):(r.drop 1).length+1=r.length:=by
 cases r with
 | nil=>exact absurd h.symm h0
 | cons t r=>simp
theorem kind_len {r:Sg} {k:Int} (h:(tr.hd r).kind=k) (h0:k≠0):(r.drop 1).length+1=r.length:=by
 cases r with
 | nil=>exact absurd h.symm h0
 | cons t r=>simp
theorem drop_le (r:Sg) (n:Nat):(r.drop n).length≤r.length:=by rw [List.length_drop];omega
theorem fit_need {r:Sg} {s:Str} (h:AllG r) (h0:s≠[]):Fit (fun _ n=>n+1=r.length) (need s r):=by
 unfold need;split
 ·rename_i e
  exact ⟨h.drop 1,txt_len e h0⟩
 ·trivial
theorem fit_want {r:Sg} {k:Int} (h:AllG r) (h0:k≠0):Fit (fun t n=>t.kind=k∧Gs t∧n+1=r.length) (want k r):=by
 unfold want;split
 ·rename_i e
  exact ⟨h.drop 1,e,h.hd,kind_len e h0⟩
 ·trivial
theorem fit_name {r:Sg} (h:AllG r):Fit (fun t n=>nmB t.text=true∧n+1=r.length) (want 1 r):=(fit_want h (by decide)).mono fun t n h=>⟨h.2.1.1 h.1,h.2.2⟩
theorem fit_numb {r:Sg} (h:AllG r):Fit (fun t n=>(0≤t.n∧t.n≤9223372036854775807)∧n+1=r.length) (want 3 r):=(fit_want h (by decide)).mono fun t n h=>⟨h.2.1.2 h.1,h.2.2⟩
end sh
end Go.Proofs.YtdefgghhkknnpaaGreatDoor
