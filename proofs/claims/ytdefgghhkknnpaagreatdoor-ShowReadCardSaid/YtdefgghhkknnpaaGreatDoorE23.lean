/- The landed parser's statements, whole, for rows of signs of any length. Condition: at most 17000 signs, the depth is at most 32, the fuel suffices. -/
import Derived.Test.YtdefgghhkknnpaaGreatDoorE22
set_option linter.unusedVariables false
set_option linter.unusedSimpArgs false
set_option maxRecDepth 100000
set_option maxHeartbeats 40000000
namespace Go.Proofs.YtdefgghhkknnpaaGreatDoor
namespace tr
open ChangeShapes WideShapes ChangeAt RowKit k rr tk
theorem w_if {f d:Nat} {r:Sg} (h:txt r=[73,70]):whatF (f+1) d r=ifF f d (r.drop 1) [] []:=by
 rw [whatF,h,if_pos rfl]
theorem w_case {f d:Nat} {r:Sg} (h:txt r=[67,65,83,69]):whatF (f+1) d r=(expr f d (r.drop 1)).bind fun x r'=>(need [79,70] r').bind fun _ r'=>caseF f d x r' [] []:=by
 rw [whatF,h,if_neg (by decide),if_pos rfl]
theorem w_for {f d:Nat} {r:Sg} (h:txt r=[70,79,82]):whatF (f+1) d r=(want 1 (r.drop 1)).bind fun t r'=>(need [58,61] r').bind fun _ r'=>(expr f d r').bind fun a r'=>(need [84,79] r').bind fun _ r'=>(expr f d r').bind fun c r'=>(if txt r'=[66,89] then expr f d (r'.drop 1) else .ok (Ex.mk 1 1 [] [] [] (hd r').line) r').bind fun y r'=>(need [68,79] r').bind fun _ r'=>(stmtsF f d [[69,78,68,95,70,79,82]] r' []).bind fun B r'=>(need [69,78,68,95,70,79,82] r').bind fun _ r'=>.ok (fun ln=>St.mk 4 t.text zeroE zeroE [a,c,y] [] [] [B] ln) r':=by
 rw [whatF,h,if_neg (by decide),if_neg (by decide),if_pos rfl]
theorem w_while {f d:Nat} {r:Sg} (h:txt r=[87,72,73,76,69]):whatF (f+1) d r=(expr f d (r.drop 1)).bind fun x r'=>(need [68,79] r').bind fun _ r'=>(stmtsF f d [[69,78,68,95,87,72,73,76,69]] r' []).bind fun B r'=>(need [69,78,68,95,87,72,73,76,69] r').bind fun _ r'=>.ok (fun ln=>St.mk 5 [] zeroE x [] [] [] [B] ln) r':=by
 rw [whatF,h,if_neg (by decide),if_neg (by decide),if_neg (by decide),if_pos rfl]
theorem w_repeat {f d:Nat} {r:Sg} (h:txt r=[82,69,80,69,65,84]):whatF (f+1) d r=(stmtsF f d [[85,78,84,73,76]] (r.drop 1) []).bind fun B r'=>(need [85,78,84,73,76] r').bind fun _ r'=>(expr f d r').bind fun x r'=>(need [69,78,68,95,82,69,80,69,65,84] r').bind fun _ r'=>.ok (fun ln=>St.mk 6 [] zeroE x [] [] [] [B] ln) r':=by
 rw [whatF,h,if_neg (by decide),if_neg (by decide),if_neg (by decide),if_neg (by decide),if_pos rfl]
theorem w_exit {f d:Nat} {r:Sg} (h:txt r=[69,88,73,84]):whatF (f+1) d r=.ok (fun ln=>St.mk 7 [] zeroE zeroE [] [] [] [] ln) (r.drop 1):=by
 rw [whatF,h,if_neg (by decide),if_neg (by decide),if_neg (by decide),if_neg (by decide),if_neg (by decide),if_pos rfl]
theorem w_return {f d:Nat} {r:Sg} (h:txt r=[82,69,84,85,82,78]):whatF (f+1) d r=.ok (fun ln=>St.mk 8 [] zeroE zeroE [] [] [] [] ln) (r.drop 1):=by
 rw [whatF,h,if_neg (by decide),if_neg (by decide),if_neg (by decide),if_neg (by decide),if_neg (by decide),if_neg (by decide),if_pos rfl]
theorem w_name {f d:Nat} {r:Sg} (h:(hd r).kind=1):whatF (f+1) d r=namedF f d r:=by
 have ht:txt r=[]:=txt_none (by omega);rw [whatF,ht,if_neg (by decide),if_neg (by decide),if_neg (by decide),if_neg (by decide),if_neg (by decide),if_neg (by decide),if_neg (by decide)];rfl
theorem w_else {f d:Nat} {r:Sg} (hk:(hd r).kind≠1) (h0:txt r≠[73,70]) (h1:txt r≠[67,65,83,69]) (h2:txt r≠[70,79,82]) (h3:txt r≠[87,72,73,76,69]) (h4:txt r≠[82,69,80,69,65,84]) (h5:txt r≠[69,88,73,84]) (h6:txt r≠[82,69,84,85,82,78]):whatF (f+1) d r=.bad 5 (hd r):=by
 rw [whatF,if_neg h0,if_neg h1,if_neg h2,if_neg h3,if_neg h4,if_neg h5,if_neg h6,want_badE hk];rfl
section
variable {r:Sg} {V:Value} {d g:Nat} {w:World}
theorem bare_any (hP:Par w g r V d) (hr:RowOk r) (f:Nat) (HN:(tr.hd r).kind=1→WCtr Tryz.prog 142 (namedF f d r) d r) (HIF:txt r=[73,70]→RowOk (r.drop 1)→WCtr Tryz.prog 143 (ifF f d (r.drop 1) [] []) d (r.drop 1)) (HCASE:txt r=[67,65,83,69]→RowOk (r.drop 1)→WCtr Tryz.prog 144 ((expr f d (r.drop 1)).bind fun x r'=>(need [79,70] r').bind fun _ r'=>caseF f d x r' [] []) d (r.drop 1)) (HFOR:txt r=[70,79,82]→RowOk (r.drop 1)→WCtr Tryz.prog 145 ((want 1 (r.drop 1)).bind fun t r'=>(need [58,61] r').bind fun _ r'=>(expr f d r').bind fun a r'=>(need [84,79] r').bind fun _ r'=>(expr f d r').bind fun c r'=>(if txt r'=[66,89] then expr f d (r'.drop 1) else .ok (Ex.mk 1 1 [] [] [] (tr.hd r').line) r').bind fun y r'=>(need [68,79] r').bind fun _ r'=>(stmtsF f d [[69,78,68,95,70,79,82]] r' []).bind fun B r'=>(need [69,78,68,95,70,79,82] r').bind fun _ r'=>.ok (fun ln=>St.mk 4 t.text zeroE zeroE [a,c,y] [] [] [B] ln) r') d (r.drop 1)) (HWHILE:txt r=[87,72,73,76,69]→RowOk (r.drop 1)→WCtr Tryz.prog 146 ((expr f d (r.drop 1)).bind fun x r'=>(need [68,79] r').bind fun _ r'=>(stmtsF f d [[69,78,68,95,87,72,73,76,69]] r' []).bind fun B r'=>(need [69,78,68,95,87,72,73,76,69] r').bind fun _ r'=>.ok (fun ln=>St.mk 5 [] zeroE x [] [] [] [B] ln) r') d (r.drop 1)) (HREPEAT:txt r=[82,69,80,69,65,84]→RowOk (r.drop 1)→WCtr Tryz.prog 147 ((stmtsF f d [[85,78,84,73,76]] (r.drop 1) []).bind fun B r'=>(need [85,78,84,73,76] r').bind fun _ r'=>(expr f d r').bind fun x r'=>(need [69,78,68,95,82,69,80,69,65,84] r').bind fun _ r'=>.ok (fun ln=>St.mk 6 [] zeroE x [] [] [] [B] ln) r') d (r.drop 1)) :
  Calls Tryz.prog 117 #[.pointer (some ⟨g,0,none⟩)] w (Gv g V d w GotW (whatF (f+1) d r)):=by
 obtain ⟨R,hR⟩:∃ R:Res (Int→St),(whatF (f+1) d r)=R:=⟨_,rfl⟩;rw [hR];have HR:=qh hR;clear hR;have HNN:=qh HN;have KIF:=qh HIF;have KCASE:=qh HCASE;have KFOR:=qh HFOR;have KWHILE:=qh HWHILE;have KREPEAT:=qh HREPEAT;clear HN HIF HCASE HFOR HWHILE HREPEAT;have P1:=qh hP;have G1:=qh (gr_refl w (some g));have R1:=qh hr;have Z1:=qh (show g<w.heap.size from hP.lt);clear hP hr;go_enter Tryz.func117,Tryz.ntmps117
 go_upto_region 1 with (fail)
 obtain ⟨hb,hx,hz⟩:=znew w #[.int .i64 0,.string ⟨#[]⟩,.int .i64 0,.int .i64 0,.string ⟨#[]⟩,.string ⟨#[]⟩,.slice none 0 0,.int .i64 0,.int .i64 0,.int .i64 0,.string ⟨#[]⟩,.string ⟨#[]⟩,.slice none 0 0,.int .i64 0,.slice none 0 0,.slice none 0 0,.slice none 0 0,.slice none 0 0,.int .i64 0] 49;generalize w.alloc (.cells #[.int .i64 0,.string ⟨#[]⟩,.int .i64 0,.int .i64 0,.string ⟨#[]⟩,.string ⟨#[]⟩,.slice none 0 0,.int .i64 0,.int .i64 0,.int .i64 0,.string ⟨#[]⟩,.string ⟨#[]⟩,.slice none 0 0,.int .i64 0,.slice none 0 0,.slice none 0 0,.slice none 0 0,.slice none 0 0,.int .i64 0] 49)=w4 at *;have hg:=gr_of (row:=some w.heap.size) hb;have Z2:=qh (And.intro hz Z1.out);have X3:=qh hx;clear hb hx hz;replace P1:=pgq hg Z1 P1;replace G1:=hgq hg G1 Z1;have Z6:=hzz hg Z2;clear hg;by_cases hk:(tr.hd r).kind=1
 ·skip
  have hq:=HR.out;rw [w_name hk] at hq;have HR7:=qh hq;clear hq HR;have CL:=HNN.out hk;rw [HR7.out] at CL;have CLL:=qh CL;clear CL;have hh:=((headS_kind R1.out).1).2 hk;have HA:=qh (head_any P1.out R1.out);unfold sv at HA;have q0:((⟨(headS (tr.hd (r))).toArray⟩:ByteArray).toList==[110,97,109,101])=true:=by rw [ByteArray.toList_eq];exact (by rw [hh];rfl)
  generalize (⟨(headS (tr.hd (r))).toArray⟩:ByteArray)=XH at *;go_wp2_with (go_at_call 72;fail)
  refine (HA.out).mono ?_;rintro e w5 ⟨rfl,hb⟩;have hg:=gr_of (row:=some w4.heap.size) hb;replace X3:=hbq hg Z6 X3;replace P1:=pgq hg Z6 P1;replace G1:=hgq hg G1 Z6;have Z11:=hzz hg Z6;clear hg hb HA hh HR7;go_wp2_with (go_at_call 142;fail)
  refine (CLL.out _ _ _ P1.out).mono ?_;rintro e w6 hgv;rcases R with ⟨x1,r1⟩|⟨n9,t9⟩
  rotate_left
  ·skip
   obtain ⟨rfl,hg⟩:=hgv;go_wp2;exact ⟨rfl,Gv.badOf rfl (gr_trans G1.out hg)⟩
  obtain ⟨⟨v9,rfl,hG⟩,hP9,hr9,hg⟩:=hgv;have P12:=qh hP9;have R13:=qh hr9;have X14:=hbq hg Z11 X3;clear X3 P1;have G15:=gtr G1 hg;clear G1;have Z16:=hzz hg Z11;clear hg hP9 hr9 R1;obtain ⟨hlin,hG⟩:=hG;have HLIN:=qh hlin;clear hlin;obtain ⟨h17,rfl,hE9⟩:=hG;have E18:=qh hE9;clear hE9;go_wp2_with ((with_reducible refine m_store X14.out 49 2 8 ?_ ?_ ?_ (sC h17) ?_ ?_ ?_ ?_ (sC_one _) ?_);rfl;rfl;rfl;rfl;rfl;rfl;kernel_rfl;intro w7 hx hg hs)
  have X20:=qh hx;have Z21:=qh (And.intro hs Z16.out);clear hx hs X14;have E22:=qh (StB.kept (kept_nw hg (qq Z16) (qq Z16) (Nat.le_refl _) (Nat.le_refl _)) E18.out);clear E18;have P23:=pgq hg Z16 P12;clear P12;have G24:=hgq hg G15 Z16;clear G15;have Z25:=hzz hg Z21;clear hg;refine bodyPost_ret (k.results_cell rfl rfl (run_loadVar_mid _ w.heap.size 0 49 _ _ X20.out.range rfl rfl (by kernel_rfl))) rfl ?_;exact Gv.okOf rfl ⟨HLIN.out,h17,rfl,(StB.kept (more_nw (qq Z25) (qq Z25)) E22.out)⟩ P23.out R13.out G24.out
 have HA:=qh (head_any P1.out R1.out);unfold sv at HA;have q0:((⟨(headS (tr.hd (r))).toArray⟩:ByteArray).toList==[110,97,109,101])=false:=by rw [ByteArray.toList_eq];exact (beq_eq_false_iff_ne.2 (mt ((headS_kind R1.out).1).1 hk))
 generalize (⟨(headS (tr.hd (r))).toArray⟩:ByteArray)=XH at *;go_wp2_with (go_at_call 72;fail)
 refine (HA.out).mono ?_;rintro e w5 ⟨rfl,hb⟩;have hg:=gr_of (row:=some w4.heap.size) hb;replace X3:=hbq hg Z6 X3;replace P1:=pgq hg Z6 P1;replace G1:=hgq hg G1 Z6;have Z10:=hzz hg Z6;clear hg hb HA;by_cases h0:txt r=[73,70]
 ·skip
  have hq:=HR.out;rw [w_if h0] at hq;have HR11:=qh hq;clear hq HR;have CL:=KIF.out h0 (R1.out.drop (txt_kind h0 (by decide)));rw [HR11.out] at CL;have CLL:=qh CL;clear CL HR11;have R12:=qh (R1.out.drop (txt_kind h0 (by decide)));go_wp2_with (go_at_call 76;fail)
  refine (take_yes P1.out R1.out (hyq R1 h0) (txt_kind h0 (by decide))).mono ?_;rintro e w6 ⟨rfl,hp,hg⟩;have P13:=qh hp;have X14:=hbq hg Z10 X3;clear X3 P1;have G15:=gtr G1 hg;clear G1;have Z16:=hzz hg Z10;clear hg hp R1;go_wp2_with (go_at_call 143;fail)
  refine (CLL.out _ _ _ P13.out).mono ?_;rintro e w7 hgv;rcases R with ⟨x1,r1⟩|⟨n9,t9⟩
  rotate_left
  ·skip
   obtain ⟨rfl,hg⟩:=hgv;go_wp2;exact ⟨rfl,Gv.badOf rfl (gr_trans G15.out hg)⟩
  obtain ⟨⟨v9,rfl,hG⟩,hP9,hr9,hg⟩:=hgv;have P17:=qh hP9;have R18:=qh hr9;have X19:=hbq hg Z16 X14;clear X14 P13;replace G15:=gtr G15 hg;have Z21:=hzz hg Z16;clear hg hP9 hr9 R12;obtain ⟨hlin,hG⟩:=hG;have HLIN:=qh hlin;clear hlin;obtain ⟨h22,rfl,hE9⟩:=hG;have E23:=qh hE9;clear hE9;go_wp2_with ((with_reducible refine m_store X19.out 49 2 13 ?_ ?_ ?_ (sC h22) ?_ ?_ ?_ ?_ (sC_one _) ?_);rfl;rfl;rfl;rfl;rfl;rfl;kernel_rfl;intro w8 hx hg hs)
  have X25:=qh hx;have Z26:=qh (And.intro hs Z21.out);clear hx hs X19;have E27:=qh (StB.kept (kept_nw hg (qq Z21) (qq Z21) (Nat.le_refl _) (Nat.le_refl _)) E23.out);clear E23;have P28:=pgq hg Z21 P17;clear P17;have G29:=hgq hg G15 Z21;clear G15;have Z30:=hzz hg Z26;clear hg;refine bodyPost_ret (k.results_cell rfl rfl (run_loadVar_mid _ w.heap.size 0 49 _ _ X25.out.range rfl rfl (by kernel_rfl))) rfl ?_;exact Gv.okOf rfl ⟨HLIN.out,h22,rfl,(StB.kept (more_nw (qq Z30) (qq Z30)) E27.out)⟩ P28.out R18.out G29.out
 go_wp2_with (go_at_call 76;fail)
 refine (take_no P1.out R1.out (hnq R1 h0)).mono ?_;rintro e w6 ⟨rfl,hb⟩;have hg:=gr_of (row:=some w5.heap.size) hb;replace X3:=hbq hg Z10 X3;have P12:=pgq hg Z10 P1;clear P1;replace G1:=hgq hg G1 Z10;have Z14:=hzz hg Z10;clear hg hb;by_cases h1:txt r=[67,65,83,69]
 ·skip
  have hq:=HR.out;rw [w_case h1] at hq;have HR15:=qh hq;clear hq HR;have CL:=KCASE.out h1 (R1.out.drop (txt_kind h1 (by decide)));rw [HR15.out] at CL;have CLL:=qh CL;clear CL HR15;have R16:=qh (R1.out.drop (txt_kind h1 (by decide)));go_wp2_with (go_at_call 76;fail)
  refine (take_yes P12.out R1.out (hyq R1 h1) (txt_kind h1 (by decide))).mono ?_;rintro e w7 ⟨rfl,hp,hg⟩;have P17:=qh hp;replace X3:=hbq hg Z14 X3;clear P12;replace G1:=gtr G1 hg;have Z20:=hzz hg Z14;clear hg hp R1;go_wp2_with (go_at_call 144;fail)
  refine (CLL.out _ _ _ P17.out).mono ?_;rintro e w8 hgv;rcases R with ⟨x1,r1⟩|⟨n9,t9⟩
  rotate_left
  ·skip
   obtain ⟨rfl,hg⟩:=hgv;go_wp2;exact ⟨rfl,Gv.badOf rfl (gr_trans G1.out hg)⟩
  obtain ⟨⟨v9,rfl,hG⟩,hP9,hr9,hg⟩:=hgv;have P21:=qh hP9;have R22:=qh hr9;have X23:=hbq hg Z20 X3;clear X3 P17;have G24:=gtr G1 hg;clear G1;have Z25:=hzz hg Z20;clear hg hP9 hr9 R16;obtain ⟨hlin,hG⟩:=hG;have HLIN:=qh hlin;clear hlin;obtain ⟨h26,rfl,hE9⟩:=hG;have E27:=qh hE9;clear hE9;go_wp2_with ((with_reducible refine m_store X23.out 49 2 18 ?_ ?_ ?_ (sC h26) ?_ ?_ ?_ ?_ (sC_one _) ?_);rfl;rfl;rfl;rfl;rfl;rfl;kernel_rfl;intro w9 hx hg hs)
  have X29:=qh hx;have Z30:=qh (And.intro hs Z25.out);clear hx hs X23;have E31:=qh (StB.kept (kept_nw hg (qq Z25) (qq Z25) (Nat.le_refl _) (Nat.le_refl _)) E27.out);clear E27;have P32:=pgq hg Z25 P21;clear P21;have G33:=hgq hg G24 Z25;clear G24;have Z34:=hzz hg Z30;clear hg;refine bodyPost_ret (k.results_cell rfl rfl (run_loadVar_mid _ w.heap.size 0 49 _ _ X29.out.range rfl rfl (by kernel_rfl))) rfl ?_;exact Gv.okOf rfl ⟨HLIN.out,h26,rfl,(StB.kept (more_nw (qq Z34) (qq Z34)) E31.out)⟩ P32.out R22.out G33.out
 go_wp2_with (go_at_call 76;fail)
 refine (take_no P12.out R1.out (hnq R1 h1)).mono ?_;rintro e w7 ⟨rfl,hb⟩;have hg:=gr_of (row:=some w6.heap.size) hb;replace X3:=hbq hg Z14 X3;replace P12:=pgq hg Z14 P12;replace G1:=hgq hg G1 Z14;have Z18:=hzz hg Z14;clear hg hb;by_cases h2:txt r=[70,79,82]
 ·skip
  have hq:=HR.out;rw [w_for h2] at hq;have HR19:=qh hq;clear hq HR;have CL:=KFOR.out h2 (R1.out.drop (txt_kind h2 (by decide)));rw [HR19.out] at CL;have CLL:=qh CL;clear CL HR19;have R20:=qh (R1.out.drop (txt_kind h2 (by decide)));go_wp2_with (go_at_call 76;fail)
  refine (take_yes P12.out R1.out (hyq R1 h2) (txt_kind h2 (by decide))).mono ?_;rintro e w8 ⟨rfl,hp,hg⟩;have P21:=qh hp;replace X3:=hbq hg Z18 X3;clear P12;replace G1:=gtr G1 hg;have Z24:=hzz hg Z18;clear hg hp R1;go_wp2_with (go_at_call 145;fail)
  refine (CLL.out _ _ _ P21.out).mono ?_;rintro e w9 hgv;rcases R with ⟨x1,r1⟩|⟨n9,t9⟩
  rotate_left
  ·skip
   obtain ⟨rfl,hg⟩:=hgv;go_wp2;exact ⟨rfl,Gv.badOf rfl (gr_trans G1.out hg)⟩
  obtain ⟨⟨v9,rfl,hG⟩,hP9,hr9,hg⟩:=hgv;have P25:=qh hP9;have R26:=qh hr9;have X27:=hbq hg Z24 X3;clear X3 P21;replace G1:=gtr G1 hg;have Z29:=hzz hg Z24;clear hg hP9 hr9 R20;obtain ⟨hlin,hG⟩:=hG;have HLIN:=qh hlin;clear hlin;obtain ⟨h30,rfl,hE9⟩:=hG;have E31:=qh hE9;clear hE9;go_wp2_with ((with_reducible refine m_store X27.out 49 2 23 ?_ ?_ ?_ (sC h30) ?_ ?_ ?_ ?_ (sC_one _) ?_);rfl;rfl;rfl;rfl;rfl;rfl;kernel_rfl;intro w10 hx hg hs)
  have X33:=qh hx;have Z34:=qh (And.intro hs Z29.out);clear hx hs X27;have E35:=qh (StB.kept (kept_nw hg (qq Z29) (qq Z29) (Nat.le_refl _) (Nat.le_refl _)) E31.out);clear E31;have P36:=pgq hg Z29 P25;clear P25;replace G1:=hgq hg G1 Z29;have Z38:=hzz hg Z34;clear hg;refine bodyPost_ret (k.results_cell rfl rfl (run_loadVar_mid _ w.heap.size 0 49 _ _ X33.out.range rfl rfl (by kernel_rfl))) rfl ?_;exact Gv.okOf rfl ⟨HLIN.out,h30,rfl,(StB.kept (more_nw (qq Z38) (qq Z38)) E35.out)⟩ P36.out R26.out G1.out
 go_wp2_with (go_at_call 76;fail)
 refine (take_no P12.out R1.out (hnq R1 h2)).mono ?_;rintro e w8 ⟨rfl,hb⟩;have hg:=gr_of (row:=some w7.heap.size) hb;have X19:=hbq hg Z18 X3;clear X3;replace P12:=pgq hg Z18 P12;replace G1:=hgq hg G1 Z18;have Z22:=hzz hg Z18;clear hg hb;by_cases h3:txt r=[87,72,73,76,69]
 ·skip
  have hq:=HR.out;rw [w_while h3] at hq;have HR23:=qh hq;clear hq HR;have CL:=KWHILE.out h3 (R1.out.drop (txt_kind h3 (by decide)));rw [HR23.out] at CL;have CLL:=qh CL;clear CL HR23;have R24:=qh (R1.out.drop (txt_kind h3 (by decide)));go_wp2_with (go_at_call 76;fail)
  refine (take_yes P12.out R1.out (hyq R1 h3) (txt_kind h3 (by decide))).mono ?_;rintro e w9 ⟨rfl,hp,hg⟩;have P25:=qh hp;replace X19:=hbq hg Z22 X19;clear P12;replace G1:=gtr G1 hg;have Z28:=hzz hg Z22;clear hg hp R1;go_wp2_with (go_at_call 146;fail)
  refine (CLL.out _ _ _ P25.out).mono ?_;rintro e w10 hgv;rcases R with ⟨x1,r1⟩|⟨n9,t9⟩
  rotate_left
  ·skip
   obtain ⟨rfl,hg⟩:=hgv;go_wp2;exact ⟨rfl,Gv.badOf rfl (gr_trans G1.out hg)⟩
  obtain ⟨⟨v9,rfl,hG⟩,hP9,hr9,hg⟩:=hgv;have P29:=qh hP9;have R30:=qh hr9;have X31:=hbq hg Z28 X19;clear X19 P25;replace G1:=gtr G1 hg;have Z33:=hzz hg Z28;clear hg hP9 hr9 R24;obtain ⟨hlin,hG⟩:=hG;have HLIN:=qh hlin;clear hlin;obtain ⟨h34,rfl,hE9⟩:=hG;have E35:=qh hE9;clear hE9;go_wp2_with ((with_reducible refine m_store X31.out 49 2 28 ?_ ?_ ?_ (sC h34) ?_ ?_ ?_ ?_ (sC_one _) ?_);rfl;rfl;rfl;rfl;rfl;rfl;kernel_rfl;intro w11 hx hg hs)
  have X37:=qh hx;have Z38:=qh (And.intro hs Z33.out);clear hx hs X31;have E39:=qh (StB.kept (kept_nw hg (qq Z33) (qq Z33) (Nat.le_refl _) (Nat.le_refl _)) E35.out);clear E35;have P40:=pgq hg Z33 P29;clear P29;have G41:=hgq hg G1 Z33;clear G1;have Z42:=hzz hg Z38;clear hg;refine bodyPost_ret (k.results_cell rfl rfl (run_loadVar_mid _ w.heap.size 0 49 _ _ X37.out.range rfl rfl (by kernel_rfl))) rfl ?_;exact Gv.okOf rfl ⟨HLIN.out,h34,rfl,(StB.kept (more_nw (qq Z42) (qq Z42)) E39.out)⟩ P40.out R30.out G41.out
 go_wp2_with (go_at_call 76;fail)
 refine (take_no P12.out R1.out (hnq R1 h3)).mono ?_;rintro e w9 ⟨rfl,hb⟩;have hg:=gr_of (row:=some w8.heap.size) hb;have X23:=hbq hg Z22 X19;clear X19;replace P12:=pgq hg Z22 P12;replace G1:=hgq hg G1 Z22;have Z26:=hzz hg Z22;clear hg hb;by_cases h4:txt r=[82,69,80,69,65,84]
 ·skip
  have hq:=HR.out;rw [w_repeat h4] at hq;have HR27:=qh hq;clear hq HR;have CL:=KREPEAT.out h4 (R1.out.drop (txt_kind h4 (by decide)));rw [HR27.out] at CL;have CLL:=qh CL;clear CL HR27;have R28:=qh (R1.out.drop (txt_kind h4 (by decide)));go_wp2_with (go_at_call 76;fail)
  refine (take_yes P12.out R1.out (hyq R1 h4) (txt_kind h4 (by decide))).mono ?_;rintro e w10 ⟨rfl,hp,hg⟩;have P29:=qh hp;replace X23:=hbq hg Z26 X23;clear P12;replace G1:=gtr G1 hg;have Z32:=hzz hg Z26;clear hg hp R1;go_wp2_with (go_at_call 147;fail)
  refine (CLL.out _ _ _ P29.out).mono ?_;rintro e w11 hgv;rcases R with ⟨x1,r1⟩|⟨n9,t9⟩
  rotate_left
  ·skip
   obtain ⟨rfl,hg⟩:=hgv;go_wp2;exact ⟨rfl,Gv.badOf rfl (gr_trans G1.out hg)⟩
  obtain ⟨⟨v9,rfl,hG⟩,hP9,hr9,hg⟩:=hgv;have P33:=qh hP9;have R34:=qh hr9;replace X23:=hbq hg Z32 X23;clear P29;replace G1:=gtr G1 hg;have Z37:=hzz hg Z32;clear hg hP9 hr9 R28;obtain ⟨hlin,hG⟩:=hG;have HLIN:=qh hlin;clear hlin;obtain ⟨h38,rfl,hE9⟩:=hG;have E39:=qh hE9;clear hE9;go_wp2_with ((with_reducible refine m_store X23.out 49 2 33 ?_ ?_ ?_ (sC h38) ?_ ?_ ?_ ?_ (sC_one _) ?_);rfl;rfl;rfl;rfl;rfl;rfl;kernel_rfl;intro w12 hx hg hs)
  have X41:=qh hx;have Z42:=qh (And.intro hs Z37.out);clear hx hs X23;have E43:=qh (StB.kept (kept_nw hg (qq Z37) (qq Z37) (Nat.le_refl _) (Nat.le_refl _)) E39.out);clear E39;have P44:=pgq hg Z37 P33;clear P33;have G45:=hgq hg G1 Z37;clear G1;have Z46:=hzz hg Z42;clear hg;refine bodyPost_ret (k.results_cell rfl rfl (run_loadVar_mid _ w.heap.size 0 49 _ _ X41.out.range rfl rfl (by kernel_rfl))) rfl ?_;exact Gv.okOf rfl ⟨HLIN.out,h38,rfl,(StB.kept (more_nw (qq Z46) (qq Z46)) E43.out)⟩ P44.out R34.out G45.out
 go_wp2_with (go_at_call 76;fail)
 refine (take_no P12.out R1.out (hnq R1 h4)).mono ?_;rintro e w10 ⟨rfl,hb⟩;have hg:=gr_of (row:=some w9.heap.size) hb;have X27:=hbq hg Z26 X23;clear X23;have P28:=pgq hg Z26 P12;clear P12;have G29:=hgq hg G1 Z26;clear G1;have Z30:=hzz hg Z26;clear hg hb;by_cases h5:txt r=[69,88,73,84]
 ·skip
  have hq:=HR.out;rw [w_exit h5] at hq;have HR31:=qh hq;clear hq HR;have R32:=qh (R1.out.drop (txt_kind h5 (by decide)));go_wp2_with (go_at_call 76;fail)
  refine (take_yes P28.out R1.out (hyq R1 h5) (txt_kind h5 (by decide))).mono ?_;rintro e w11 ⟨rfl,hp,hg⟩;have P33:=qh hp;replace X27:=hbq hg Z30 X27;clear P28;replace G29:=gtr G29 hg;have Z36:=hzz hg Z30;clear hg hp R1;generalize ((r).drop 1)=r37 at *;go_wp2_with ((with_reducible refine m_store X27.out 49 2 37 ?_ ?_ ?_ (sC ⟨7,[],⟨0,0,[],[],⟨none,0,0⟩,0⟩,⟨0,0,[],[],⟨none,0,0⟩,0⟩,⟨none,0,0⟩,⟨none,0,0⟩,⟨none,0,0⟩,⟨none,0,0⟩,0⟩) ?_ ?_ ?_ ?_ (sC_one _) ?_);rfl;rfl;rfl;rfl;rfl;rfl;kernel_rfl;intro w12 hx hg hs)
  have X38:=qh hx;have Z39:=qh (And.intro hs Z36.out);clear hx hs X27;have P40:=pgq hg Z36 P33;clear P33;have G41:=hgq hg G29 Z36;clear G29;have Z42:=hzz hg Z39;clear hg;refine bodyPost_ret (k.results_cell rfl rfl (run_loadVar_mid _ w.heap.size 0 49 _ _ X38.out.range rfl rfl (by kernel_rfl))) rfl ?_;refine Gv.okOf HR31.out.symm ⟨fun _=>rfl,⟨7,[],⟨0,0,[],[],⟨none,0,0⟩,0⟩,⟨0,0,[],[],⟨none,0,0⟩,0⟩,⟨none,0,0⟩,⟨none,0,0⟩,⟨none,0,0⟩,⟨none,0,0⟩,0⟩,rfl,?_⟩ P40.out R32.out G41.out;unfold StB;exact ⟨rfl,rfl,rfl,zeroE_B _ _,zeroE_B _ _,ExLB.none_ _ _,⟨[],RB.none_ _ _ _ _,rfl⟩,RB.none_ _ _ _ _,[],RB.none_ _ _ _ _,BlksB.nil⟩
 go_wp2_with (go_at_call 76;fail)
 refine (take_no P28.out R1.out (hnq R1 h5)).mono ?_;rintro e w11 ⟨rfl,hb⟩;have hg:=gr_of (row:=some w10.heap.size) hb;have X31:=hbq hg Z30 X27;clear X27;have P32:=pgq hg Z30 P28;clear P28;have G33:=hgq hg G29 Z30;clear G29;have Z34:=hzz hg Z30;clear hg hb;by_cases h6:txt r=[82,69,84,85,82,78]
 ·skip
  have hq:=HR.out;rw [w_return h6] at hq;have HR35:=qh hq;clear hq HR;have R36:=qh (R1.out.drop (txt_kind h6 (by decide)));go_wp2_with (go_at_call 47;fail)
  refine (need_yes P32.out R1.out (hyq R1 h6)).mono ?_;rintro e w12 ⟨rfl,hp,hg⟩;have P37:=qh hp;have X38:=hbq hg Z34 X31;clear X31 P32;replace G33:=gtr G33 hg;have Z40:=hzz hg Z34;clear hg hp R1;generalize (r.drop 1)=r41 at *;go_wp2_with ((with_reducible refine m_store X38.out 49 2 40 ?_ ?_ ?_ (sC ⟨8,[],⟨0,0,[],[],⟨none,0,0⟩,0⟩,⟨0,0,[],[],⟨none,0,0⟩,0⟩,⟨none,0,0⟩,⟨none,0,0⟩,⟨none,0,0⟩,⟨none,0,0⟩,0⟩) ?_ ?_ ?_ ?_ (sC_one _) ?_);rfl;rfl;rfl;rfl;rfl;rfl;kernel_rfl;intro w13 hx hg hs)
  have X42:=qh hx;have Z43:=qh (And.intro hs Z40.out);clear hx hs X38;have P44:=pgq hg Z40 P37;clear P37;have G45:=hgq hg G33 Z40;clear G33;have Z46:=hzz hg Z43;clear hg;refine bodyPost_ret (k.results_cell rfl rfl (run_loadVar_mid _ w.heap.size 0 49 _ _ X42.out.range rfl rfl (by kernel_rfl))) rfl ?_;refine Gv.okOf HR35.out.symm ⟨fun _=>rfl,⟨8,[],⟨0,0,[],[],⟨none,0,0⟩,0⟩,⟨0,0,[],[],⟨none,0,0⟩,0⟩,⟨none,0,0⟩,⟨none,0,0⟩,⟨none,0,0⟩,⟨none,0,0⟩,0⟩,rfl,?_⟩ P44.out R36.out G45.out;unfold StB;exact ⟨rfl,rfl,rfl,zeroE_B _ _,zeroE_B _ _,ExLB.none_ _ _,⟨[],RB.none_ _ _ _ _,rfl⟩,RB.none_ _ _ _ _,[],RB.none_ _ _ _ _,BlksB.nil⟩
 have hq:=HR.out;rw [w_else hk h0 h1 h2 h3 h4 h5 h6] at hq;have HR35:=qh hq;clear hq HR;have hq:=HR35.out;go_wp2_with (go_at_call 47;fail)
 refine (need_no P32.out R1.out (hnq R1 h6)).mono ?_;rintro e w12 ⟨rfl,hb⟩;go_wp2;exact ⟨rfl,Gv.badOf hq.symm (gr_trans G33.out (gr_of hb))⟩
end
theorem contains_stop {ends:List Str} (hw:wordsB ends=true) {r:Sg} (hr:RowOk r):ends.contains (headS (hd r))=oneOf (txt r) ends:=by
 induction ends with
 | nil=>unfold oneOf;simp
 | cons e L ih=>
  unfold wordsB at hw ih;rw [List.all_cons,Bool.and_eq_true] at hw;obtain ⟨h1,h2⟩:=hw;have ih:=ih h2;simp only [Bool.and_eq_true,bne_iff_ne,ne_eq] at h1;obtain ⟨⟨⟨a1,a2⟩,a3⟩,a4⟩:=h1;have key:=headS_txt hr a1 a2 a3 a4;rw [List.contains_cons,ih];unfold oneOf;rw [List.any_cons];by_cases h:txt r=e
  ·rw [key.2 h,h]
   simp [a4]
  ·have:(headS (hd r)==e)=false:=beq_eq_false_iff_ne.2 (mt key.1 h)
   rw [this,show (e==txt r)=false from beq_eq_false_iff_ne.2 (fun h2=>h h2.symm)];simp
theorem case_stop {r:Sg} (hr:RowOk r):([[110,117,109,98,101,114],[45],[69,76,83,69],[69,78,68,95,67,65,83,69]]:List Str).contains (headS (hd r))=caseEnd r:=by
 have h:=contains_stop (ends:=[[45],[69,76,83,69],[69,78,68,95,67,65,83,69]]) (by decide) hr;have k3:=(headS_kind hr).2.1;rw [List.contains_cons,h];unfold caseEnd;by_cases hk:(hd r).kind=3
 ·rw [k3.2 hk]
  simp [hk,numS]
 ·have:(headS (hd r)==numS)=false:=beq_eq_false_iff_ne.2 (mt k3.1 hk)
  rw [show ([110,117,109,98,101,114]:Str)=numS from rfl,this];simp [hk]
theorem block_gets {F d:Nat} {r:Sg} (hr:RowOk r) (hl:r.length≤17000) (hf:20*r.length+12≤F) (ends:List Str) (hw:wordsB ends=true) (HS:∀ f' r',f'<F→r'.length≤r.length→RowOk r'→20*r'.length+11≤f'→SCtr Tryz.prog 79 (stmtF f' d r') d r'):BCtr Tryz.prog 49 ends (stmtsF F d ends r []) d r:=by
 intro V g w e hP h1 h2 h3;rw [stmts_run];exact block_any hP hr hl hf ends _ (fun r1 hr1=>contains_stop hw hr1) h1 h2 h3 HS
theorem case_gets {F d:Nat} {r:Sg} (hr:RowOk r) (hl:r.length≤17000) (hf:20*r.length+12≤F) (HS:∀ f' r',f'<F→r'.length≤r.length→RowOk r'→20*r'.length+11≤f'→SCtr Tryz.prog 79 (stmtF f' d r') d r'):BCtr Tryz.prog 49 [[110,117,109,98,101,114],[45],[69,76,83,69],[69,78,68,95,67,65,83,69]] (blockF F d r []) d r:=by
 intro V g w e hP h1 h2 h3;rw [block_run];exact block_any hP hr hl hf _ _ (fun r1 hr1=>case_stop hr1) h1 h2 h3 HS
theorem place_len {f d:Nat} {r r2:Sg} {x:Ex} (hf:20*r.length+9≤f) (h:placeF f d r=.ok x r2):r2.length<r.length:=by
 have hp:Fin' r.length (placeF f d r):=by
  unfold placeF;refine fin_bind (fin_want (by decide)) fun t r1 h1=>?_
  split
  ·exact fin_bind (fin_index (by omega)) fun x r2 h2=>fin_ok (by omega)
  ·exact fin_ok (by omega)
 rw [h] at hp;exact hp
theorem stmt_all:∀ F d r,d≤32→RowOk r→r.length≤17000→20*r.length+11≤F→SCtr Tryz.prog 79 (stmtF F d r) d r:=by
 intro F;induction F using Nat.strongRecOn with
 | _ F ih=>
 intro d r hd hr hl hf;obtain ⟨f,rfl⟩:∃ k,F=k+1:=⟨F-1,by omega⟩;intro V g w hP;refine statement_any hP hr hd f fun h32=>?_
 obtain ⟨f2,rfl⟩:∃ k,f=k+1:=⟨f-1,by have:=hr.len;omega⟩;have hd1:d+1≤32:=by omega
 have BB:∀ f1 ends r1,f1≤f2→wordsB ends=true→RowOk r1→r1.length≤r.length→20*r1.length+12≤f1→BCtr Tryz.prog 49 ends (stmtsF f1 (d+1) ends r1 []) (d+1) r1:=
  fun f1 ends r1 h1 h2 h3 h4 h5=>block_gets h3 (by omega) h5 ends h2 fun f' r' g1 g2 g3 g4=>ih f' (by omega) (d+1) r' hd1 g3 (by omega) g4
 have BC:∀ f1 r1,f1≤f2→RowOk r1→r1.length≤r.length→20*r1.length+12≤f1→BCtr Tryz.prog 49 [[110,117,109,98,101,114],[45],[69,76,83,69],[69,78,68,95,67,65,83,69]] (blockF f1 (d+1) r1 []) (d+1) r1:=
  fun f1 r1 h1 h3 h4 h5=>case_gets h3 (by omega) h5 fun f' r' g1 g2 g3 g4=>ih f' (by omega) (d+1) r' hd1 g3 (by omega) g4
 have hdl:=drop_len r;have hr0:=hr.len;intro V g w hP;refine bare_any hP hr f2 (fun hk=>?_) (fun hw hr1=>?_) (fun hw hr1=>?_) (fun hw hr1=>?_) (fun hw hr1=>?_) (fun hw hr1=>?_)
 ·intro V g w hP
  have PG:=place_gets (f:=f2) hd1 hr (by omega);rcases named_cases f2 (d+1) r with ⟨n,t,h1,h2⟩|⟨nm,x,ln,r2,h1,h2⟩|⟨nm,ln,r2,h1,h2⟩
  ·exact named_bad hP hr hd1 (by omega) PG h1 h2
  ·exact named_index hP hr hd1 (by omega) PG (place_len (by omega) h1) h1 h2
  ·exact named_var hP hr hd1 (by omega) PG (place_len (by omega) h1) (fun nm r1 h3 h4 V g w hP=>call_any hP h3 hd1 (by omega) (by omega) nm) h1 h2
 ·intro V g w hP
  have:=hr1.len;exact choice_any hP hr1 hd1 (by omega) (by omega) fun f1 ends r1 h1 h2 h3 h4 h5=>BB f1 ends r1 h1 h2 h3 (by omega) h5
 ·intro V g w hP
  have:=hr1.len;exact cases_any hP hr1 hd1 (by omega) (by omega) (fun f1 ends r1 h1 h2 h3 h4 h5=>BB f1 ends r1 h1 h2 h3 (by omega) h5) fun f1 r1 h1 h3 h4 h5=>BC f1 r1 h1 h3 (by omega) h5
 ·intro V g w hP
  have:=hr1.len;exact count_any hP hr1 hd1 (by omega) fun ends r1 h1 h2 h3=>BB f2 ends r1 (Nat.le_refl _) h1 h2 (by omega) (by omega)
 ·intro V g w hP
  have:=hr1.len;exact while_any hP hr1 hd1 (by omega) fun ends r1 h1 h2 h3=>BB f2 ends r1 (Nat.le_refl _) h1 h2 (by omega) (by omega)
 ·intro V g w hP
  have:=hr1.len;exact repeat_any hP hr1 hd1 (by omega) fun ends r1 h1 h2 h3=>BB f2 ends r1 (Nat.le_refl _) h1 h2 (by omega) (by omega)
end tr
end Go.Proofs.YtdefgghhkknnpaaGreatDoor
