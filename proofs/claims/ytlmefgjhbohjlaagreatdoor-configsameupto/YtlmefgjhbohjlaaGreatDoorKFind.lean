/- Whether a configuration may be, its bounds, by the program. -/
import Derived.Test.YtlmefgjhbohjlaaGreatDoorVFault
namespace Go.Proofs.YtlmefgjhbohjlaaGreatDoor
set_option maxRecDepth 20000
set_option maxHeartbeats 16000000
open Go.RowKit
structure CfgAt (w:World) (cf:CfgC) (pk:Option Addr) (ck:Nat) (pp:Option Addr) (cp:Nat) (pr:Option Addr) (cr:Nat):Prop where
 keys:KyAt w pk cf.keys
 pools:PoAtC w pp cf.pools
 routes:RoAt w pr cf.routes
 ck:cf.keys.length≤ck
 cp:cf.pools.length≤cp
 cr:cf.routes.length≤cr
theorem CfgAt.next {w w':World}{cf:CfgC}{pk pp pr:Option Addr}{ck cp cr:Nat} (h:CfgAt w cf pk ck pp cp pr cr) (hb:Below w.heap.size w w'):CfgAt w' cf pk ck pp cp pr cr:=
 ⟨h.keys.next hb,h.pools.next hb,h.routes.next hb,h.ck,h.cp,h.cr⟩
structure CfgZ (cf:CfgC):Prop where
 keys:∀ x∈cf.keys,x.id.length≤maxLen∧x.sec.length≤maxLen
 pools:∀ x∈cf.pools,x.name.length≤maxLen∧x.probe.path.length≤140737488355328∧x.backs.length≤140737488355328∧∀ y∈x.backs,y.addr.length≤140737488355328
 routes:∀ x∈cf.routes,RouteZ x
 nk:cf.keys.length≤140737488355328
 np:cf.pools.length≤140737488355328
 nr:cf.routes.length≤140737488355328
abbrev cfgT (cf:CfgC) (pk:Option Addr) (ck:Nat) (pp:Option Addr) (cp:Nat) (pr:Option Addr) (cr:Nat):Value:=cfgV (.slice pk cf.keys.length ck) (.slice pp cf.pools.length cp) (.slice pr cf.routes.length cr) cf
theorem pfault_any (cf:CfgC) (pk:Option Addr) (ck:Nat) (pp:Option Addr) (cp:Nat) (pr:Option Addr) (cr:Nat) (hz:CfgZ cf) (w:World) (hE:EnvC w) (hC:CfgAt w cf pk ck pp cp pr cr):Calls Tryz.prog 37 #[cfgT cf pk ck pp cp pr cr] w fun e w'=>e= .returned (.string (str (validC askT cf)))∧Below w.heap.size w w':=by
 have HK:=hid (fun (W:World) (hb:Below w.heap.size w W)=>pkeys_any cf.keys pk cf.keys.length ck rfl hC.ck hz.keys hz.nk W (hE.next hb) (hC.keys.next hb));have HP:=hid (fun (W:World) (hb:Below w.heap.size w W)=>ppools_any cf.pools pp cf.pools.length cp rfl hC.cp hz.pools hz.np W (hE.next hb) (hC.pools.next hb));have HR:=hid (fun (W:World) (hb:Below w.heap.size w W) (hG:W.heap[w.heap.size]?=some (cfgO (.slice pk cf.keys.length ck) (.slice pp cf.pools.length cp) (.slice pr cf.routes.length cr) cf))=>proutes_any cf (.slice pk cf.keys.length ck) (.slice pr cf.routes.length cr) pp cf.pools.length cp rfl hz.np w.heap.size cf.routes pr cf.routes.length cr rfl hC.cr hz.routes hz.nr W (hE.next hb) (hC.routes.next hb) (hC.pools.next hb).at hG);rw [show str n_keys=(⟨#[107,101,121,115]⟩:ByteArray) from rfl] at HK;rw [show str n_pools=(⟨#[112,111,111,108,115]⟩:ByteArray) from rfl] at HP;rw [show str n_routes=(⟨#[114,111,117,116,101,115]⟩:ByteArray) from rfl] at HR;have HW1:=hid (fun W:World=>pwithin_any cf.maxhead 64 65536 W);have HW2:=hid (fun W:World=>pwithin_any cf.maxbody 0 1048576 W);have HW3:=hid (fun W:World=>pwithin_any cf.maxconns 1 64 W);have HW4:=hid (fun W:World=>pwithin_any cf.idle 1 1048576 W);have HW5:=hid (fun W:World=>pwithin_any cf.header 1 1048576 W);unfold validC;obtain⟨K,hK⟩:∃ b,keysC askT cf.keys=b:=⟨_,rfl⟩;obtain⟨P,hP⟩:∃ b,poolsC askT cf.pools=b:=⟨_,rfl⟩;obtain⟨R,hR⟩:∃ b,routesC askT cf.pools cf.routes=b:=⟨_,rfl⟩;obtain⟨b1,hb1⟩:∃ b,inC cf.maxhead 64 65536=b:=⟨_,rfl⟩;obtain⟨b2,hb2⟩:∃ b,inC cf.maxbody 0 1048576=b:=⟨_,rfl⟩;obtain⟨b3,hb3⟩:∃ b,inC cf.maxconns 1 64=b:=⟨_,rfl⟩;obtain⟨b4,hb4⟩:∃ b,inC cf.idle 1 1048576=b:=⟨_,rfl⟩;obtain⟨b5,hb5⟩:∃ b,inC cf.header 1 1048576=b:=⟨_,rfl⟩;rw [hK] at HK;rw [hP] at HP;rw [hR] at HR;rw [hb1] at HW1;rw [hb2] at HW2;rw [hb3] at HW3;rw [hb4] at HW4;rw [hb5] at HW5;rw [hK,hP,hR,hb1,hb2,hb3,hb4,hb5];clear hK hP hR hb1 hb2 hb3 hb4 hb5 hz hE hC;obtain⟨lk,lp,lr,m1,m2,m3,m4,m5⟩:=cf;dsimp only [cfgT,cfgV,cfgO] at*;obtain⟨nk,hnk⟩:∃ n,lk.length=n:=⟨_,rfl⟩;obtain⟨np,hnp⟩:∃ n,lp.length=n:=⟨_,rfl⟩;obtain⟨nr,hnr⟩:∃ n,lr.length=n:=⟨_,rfl⟩;rw [hnk,hnp,hnr] at HR;rw [hnk] at HK;rw [hnp] at HP;rw [hnk,hnp,hnr];clear hnk hnp hnr;have HB0:=hid (below_new w (.cells #[.slice pk nk ck,.slice pp np cp,.slice pr nr cr,.int .i64 m1,.int .i64 m2,.int .i64 m3,.int .i64 m4,.int .i64 m5] 26 (0,0)));have HX0:=hid (heap_alloc_new w (.cells #[.slice pk nk ck,.slice pp np cp,.slice pr nr cr,.int .i64 m1,.int .i64 m2,.int .i64 m3,.int .i64 m4,.int .i64 m5] 26 (0,0)));have E1:=hid (fun h:K≠ []=>ne_facts h);have E2:=hid (fun h:P≠ []=>ne_facts h);have E3:=hid (fun h:R≠ []=>ne_facts h);by_cases h1:K= []
 case neg=>
  rw [if_pos h1];clear HP HR HW1 HW2 HW3 HW4 HW5 E2 E3;have f1:=E1.out h1;obtain⟨S,hS⟩:∃ S,str K=S:=⟨_,rfl⟩;rw [hS] at f1 HK ⊢;have f2:(S.toList== (⟨#[]⟩:ByteArray).toList)=false:=ne_list f1;have f3:S.toList.isEmpty=false:=ne_empty f1;have f4:(S.toList== [])=false:=by have h:=f2;rw [ByteArray.toList_eq,ByteArray.toList_eq] at h;rw [ByteArray.toList_eq];exact h
  clear hS h1;go_enter Tryz.func37,Tryz.ntmps37;go_wp2_with (first|(go_at_call 85;(with_reducible refine(HK.out _ HB0.out).mono ?_);rintro e w1 ⟨rfl,hw⟩;have HB1:=hid (HB0.out.trans (hw.mono HB0.out.size));have HX1:=hid (kB hw HX0.out);(try clear z0 z1 z2 z3 z4 z5 z6 z7);obtain⟨z0,z1,z2,z3,z4,z5,z6,z7⟩:=cells8 HX1.out;clear hw)|(go_at_call 87;(with_reducible refine(HP.out _ HB1.out).mono ?_);rintro e w2 ⟨rfl,hw⟩;have HB2:=hid (HB1.out.trans (hw.mono HB1.out.size));have HX2:=hid (kB hw HX1.out);(try clear z0 z1 z2 z3 z4 z5 z6 z7);obtain⟨z0,z1,z2,z3,z4,z5,z6,z7⟩:=cells8 HX2.out;clear hw)|(go_at_call 91;(with_reducible refine(HR.out _ HB2.out HX2.out).mono ?_);rintro e w3 ⟨rfl,hw⟩;have HB3:=hid (HB2.out.trans (hw.mono HB2.out.size));have HX3:=hid (kB hw HX2.out);(try clear z0 z1 z2 z3 z4 z5 z6 z7);obtain⟨z0,z1,z2,z3,z4,z5,z6,z7⟩:=cells8 HX3.out;clear hw)|(go_at_call 92;first|((with_reducible refine(HW1.out _).mono ?_);rintro e wx ⟨rfl,hw⟩;subst wx)|((with_reducible refine(HW2.out _).mono ?_);rintro e wx ⟨rfl,hw⟩;subst wx)|((with_reducible refine(HW3.out _).mono ?_);rintro e wx ⟨rfl,hw⟩;subst wx)|((with_reducible refine(HW4.out _).mono ?_);rintro e wx ⟨rfl,hw⟩;subst wx)|((with_reducible refine(HW5.out _).mono ?_);rintro e wx ⟨rfl,hw⟩;subst wx)));go_ret;exact⟨rfl,HB1.out⟩
 subst h1;rw [if_neg (by simp)];by_cases h1:P= []
 case neg=>
  rw [if_pos h1];clear HR HW1 HW2 HW3 HW4 HW5 E1 E3;have f1:=E2.out h1;obtain⟨S,hS⟩:∃ S,str P=S:=⟨_,rfl⟩;rw [hS] at f1 HP ⊢;have f2:(S.toList== (⟨#[]⟩:ByteArray).toList)=false:=ne_list f1;have f3:S.toList.isEmpty=false:=ne_empty f1;have f4:(S.toList== [])=false:=by have h:=f2;rw [ByteArray.toList_eq,ByteArray.toList_eq] at h;rw [ByteArray.toList_eq];exact h
  clear hS h1;go_enter Tryz.func37,Tryz.ntmps37;go_wp2_with (first|(go_at_call 85;(with_reducible refine(HK.out _ HB0.out).mono ?_);rintro e w1 ⟨rfl,hw⟩;have HB1:=hid (HB0.out.trans (hw.mono HB0.out.size));have HX1:=hid (kB hw HX0.out);(try clear z0 z1 z2 z3 z4 z5 z6 z7);obtain⟨z0,z1,z2,z3,z4,z5,z6,z7⟩:=cells8 HX1.out;clear hw)|(go_at_call 87;(with_reducible refine(HP.out _ HB1.out).mono ?_);rintro e w2 ⟨rfl,hw⟩;have HB2:=hid (HB1.out.trans (hw.mono HB1.out.size));have HX2:=hid (kB hw HX1.out);(try clear z0 z1 z2 z3 z4 z5 z6 z7);obtain⟨z0,z1,z2,z3,z4,z5,z6,z7⟩:=cells8 HX2.out;clear hw)|(go_at_call 91;(with_reducible refine(HR.out _ HB2.out HX2.out).mono ?_);rintro e w3 ⟨rfl,hw⟩;have HB3:=hid (HB2.out.trans (hw.mono HB2.out.size));have HX3:=hid (kB hw HX2.out);(try clear z0 z1 z2 z3 z4 z5 z6 z7);obtain⟨z0,z1,z2,z3,z4,z5,z6,z7⟩:=cells8 HX3.out;clear hw)|(go_at_call 92;first|((with_reducible refine(HW1.out _).mono ?_);rintro e wx ⟨rfl,hw⟩;subst wx)|((with_reducible refine(HW2.out _).mono ?_);rintro e wx ⟨rfl,hw⟩;subst wx)|((with_reducible refine(HW3.out _).mono ?_);rintro e wx ⟨rfl,hw⟩;subst wx)|((with_reducible refine(HW4.out _).mono ?_);rintro e wx ⟨rfl,hw⟩;subst wx)|((with_reducible refine(HW5.out _).mono ?_);rintro e wx ⟨rfl,hw⟩;subst wx)));go_ret;exact⟨rfl,HB2.out⟩
 subst h1;rw [if_neg (by simp)];by_cases h1:R= []
 case neg=>
  rw [if_pos h1];clear HW1 HW2 HW3 HW4 HW5 E1 E2;have f1:=E3.out h1;obtain⟨S,hS⟩:∃ S,str R=S:=⟨_,rfl⟩;rw [hS] at f1 HR ⊢;have f2:(S.toList== (⟨#[]⟩:ByteArray).toList)=false:=ne_list f1;have f3:S.toList.isEmpty=false:=ne_empty f1;have f4:(S.toList== [])=false:=by have h:=f2;rw [ByteArray.toList_eq,ByteArray.toList_eq] at h;rw [ByteArray.toList_eq];exact h
  clear hS h1;go_enter Tryz.func37,Tryz.ntmps37;go_wp2_with (first|(go_at_call 85;(with_reducible refine(HK.out _ HB0.out).mono ?_);rintro e w1 ⟨rfl,hw⟩;have HB1:=hid (HB0.out.trans (hw.mono HB0.out.size));have HX1:=hid (kB hw HX0.out);(try clear z0 z1 z2 z3 z4 z5 z6 z7);obtain⟨z0,z1,z2,z3,z4,z5,z6,z7⟩:=cells8 HX1.out;clear hw)|(go_at_call 87;(with_reducible refine(HP.out _ HB1.out).mono ?_);rintro e w2 ⟨rfl,hw⟩;have HB2:=hid (HB1.out.trans (hw.mono HB1.out.size));have HX2:=hid (kB hw HX1.out);(try clear z0 z1 z2 z3 z4 z5 z6 z7);obtain⟨z0,z1,z2,z3,z4,z5,z6,z7⟩:=cells8 HX2.out;clear hw)|(go_at_call 91;(with_reducible refine(HR.out _ HB2.out HX2.out).mono ?_);rintro e w3 ⟨rfl,hw⟩;have HB3:=hid (HB2.out.trans (hw.mono HB2.out.size));have HX3:=hid (kB hw HX2.out);(try clear z0 z1 z2 z3 z4 z5 z6 z7);obtain⟨z0,z1,z2,z3,z4,z5,z6,z7⟩:=cells8 HX3.out;clear hw)|(go_at_call 92;first|((with_reducible refine(HW1.out _).mono ?_);rintro e wx ⟨rfl,hw⟩;subst wx)|((with_reducible refine(HW2.out _).mono ?_);rintro e wx ⟨rfl,hw⟩;subst wx)|((with_reducible refine(HW3.out _).mono ?_);rintro e wx ⟨rfl,hw⟩;subst wx)|((with_reducible refine(HW4.out _).mono ?_);rintro e wx ⟨rfl,hw⟩;subst wx)|((with_reducible refine(HW5.out _).mono ?_);rintro e wx ⟨rfl,hw⟩;subst wx)));go_ret;exact⟨rfl,HB3.out⟩
 subst h1;rw [if_neg (by simp)];clear E1 E2 E3;rcases five b1 b2 b3 b4 b5 with h|⟨h1,h2⟩|⟨h1,h2,h3⟩|⟨h1,h2,h3,h4⟩|⟨h1,h2,h3,h4,h5⟩|⟨h1,h2,h3,h4,h5⟩
 all_goals
  subst_vars
  go_enter Tryz.func37,Tryz.ntmps37;go_wp2_with (first|(go_at_call 85;(with_reducible refine(HK.out _ HB0.out).mono ?_);rintro e w1 ⟨rfl,hw⟩;have HB1:=hid (HB0.out.trans (hw.mono HB0.out.size));have HX1:=hid (kB hw HX0.out);(try clear z0 z1 z2 z3 z4 z5 z6 z7);obtain⟨z0,z1,z2,z3,z4,z5,z6,z7⟩:=cells8 HX1.out;clear hw)|(go_at_call 87;(with_reducible refine(HP.out _ HB1.out).mono ?_);rintro e w2 ⟨rfl,hw⟩;have HB2:=hid (HB1.out.trans (hw.mono HB1.out.size));have HX2:=hid (kB hw HX1.out);(try clear z0 z1 z2 z3 z4 z5 z6 z7);obtain⟨z0,z1,z2,z3,z4,z5,z6,z7⟩:=cells8 HX2.out;clear hw)|(go_at_call 91;(with_reducible refine(HR.out _ HB2.out HX2.out).mono ?_);rintro e w3 ⟨rfl,hw⟩;have HB3:=hid (HB2.out.trans (hw.mono HB2.out.size));have HX3:=hid (kB hw HX2.out);(try clear z0 z1 z2 z3 z4 z5 z6 z7);obtain⟨z0,z1,z2,z3,z4,z5,z6,z7⟩:=cells8 HX3.out;clear hw)|(go_at_call 92;first|((with_reducible refine(HW1.out _).mono ?_);rintro e wx ⟨rfl,hw⟩;subst wx)|((with_reducible refine(HW2.out _).mono ?_);rintro e wx ⟨rfl,hw⟩;subst wx)|((with_reducible refine(HW3.out _).mono ?_);rintro e wx ⟨rfl,hw⟩;subst wx)|((with_reducible refine(HW4.out _).mono ?_);rintro e wx ⟨rfl,hw⟩;subst wx)|((with_reducible refine(HW5.out _).mono ?_);rintro e wx ⟨rfl,hw⟩;subst wx)));go_ret;exact⟨rfl,HB3.out⟩
def validE (cf:CfgC):Value:=if validC askT cf= [] then .tuple #[.string ⟨#[]⟩,.nilIface] else .tuple #[.string (str (validC askT cf)),.iface 63 (.int .i64 70)]
theorem pvalid_any (cf:CfgC) (pk:Option Addr) (ck:Nat) (pp:Option Addr) (cp:Nat) (pr:Option Addr) (cr:Nat) (hz:CfgZ cf) (w:World) (hE:EnvC w) (hC:CfgAt w cf pk ck pp cp pr cr):Calls Tryz.prog 14 #[cfgT cf pk ck pp cp pr cr] w fun e w'=>e= .returned (validE cf)∧Below w.heap.size w w':=by
 have HF:=hid (fun (W:World) (hb:Below w.heap.size w W)=>pfault_any cf pk ck pp cp pr cr hz W (hE.next hb) (hC.next hb));unfold validE;obtain⟨V,hV⟩:∃ V,validC askT cf=V:=⟨_,rfl⟩;rw [hV] at HF ⊢;clear hV hz hE hC;obtain⟨lk,lp,lr,m1,m2,m3,m4,m5⟩:=cf;dsimp only [cfgT,cfgV] at*;obtain⟨nk,hnk⟩:∃ n,lk.length=n:=⟨_,rfl⟩;obtain⟨np,hnp⟩:∃ n,lp.length=n:=⟨_,rfl⟩;obtain⟨nr,hnr⟩:∃ n,lr.length=n:=⟨_,rfl⟩;rw [hnk,hnp,hnr] at HF ⊢;clear hnk hnp hnr;have HB0:=hid (below_new w (.cells #[.slice pk nk ck,.slice pp np cp,.slice pr nr cr,.int .i64 m1,.int .i64 m2,.int .i64 m3,.int .i64 m4,.int .i64 m5] 26 (0,0)));by_cases h1:V= []
 · subst h1;rw [if_pos rfl];go_enter Tryz.func14,Tryz.ntmps14;go_wp2_with (go_at_call 37;(with_reducible refine(HF.out _ HB0.out).mono ?_);rintro e w1 ⟨rfl,hw⟩;have HB1:=hid (HB0.out.trans (hw.mono HB0.out.size));clear hw);go_ret2;exact⟨rfl,HB1.out⟩
 · rw [if_neg h1];have E1:=hid (fun h:V≠ []=>ne_facts h);have f1:=E1.out h1;obtain⟨S,hS⟩:∃ S,str V=S:=⟨_,rfl⟩;rw [hS] at f1 HF ⊢;have f2:(S.toList== (⟨#[]⟩:ByteArray).toList)=false:=ne_list f1;have f3:S.toList.isEmpty=false:=ne_empty f1;have f4:(S.toList== [])=false:=by have h:=f2;rw [ByteArray.toList_eq,ByteArray.toList_eq] at h;rw [ByteArray.toList_eq];exact h
   clear hS h1;go_enter Tryz.func14,Tryz.ntmps14;go_wp2_with (go_at_call 37;(with_reducible refine(HF.out _ HB0.out).mono ?_);rintro e w1 ⟨rfl,hw⟩;have HB1:=hid (HB0.out.trans (hw.mono HB0.out.size));clear hw);go_ret2;exact⟨rfl,HB1.out⟩
def JV.num:JV→Int
 | .mk _ _ _ n _ _ _=>n
def JV.isWhole:JV→Bool
 | .mk _ _ _ _ h _ _=>h
def failM (z:Option B) (p:B):Option B:=some (z.getD p)
def atV (v:JV) (p:B):Option JV:=goto v (steps p)
def textE (v:JV) (p:B):B×Nat:=((ofKind 4 (atV v p)).1.text,(ofKind 4 (atV v p)).2)
def intE (v:JV) (p:B):Int×Nat:=if (ofKind 3 (atV v p)).2≠0 then (0,(ofKind 3 (atV v p)).2) else if (ofKind 3 (atV v p)).1.isWhole=false then (0,7) else ((ofKind 3 (atV v p)).1.num,0)
def numC (i:Nat):B:=Lib.itoa (i:Int)
def objM (v:JV) (p:B) (ns:List B) (z:Option B):Option B:=if onlyN (ofKind 6 (atV v p)) ns=0 then z else failM z p
def textM (v:JV) (p:B) (z:Option B):B×Option B:=((textE v p).1,if (textE v p).2=0 then z else failM z p)
def textD (v:JV) (p d:B) (z:Option B):B×Option B:=if atV v p=none then (d,z) else textM v p z
def intM (v:JV) (p:B) (z:Option B):Int×Option B:=((intE v p).1,if (intE v p).2=0 then z else failM z p)
def intD (v:JV) (p:B) (d:Int) (z:Option B):Int×Option B:=if atV v p=none then (d,z) else intM v p z
def oddN (l:List JV):Option Nat:=l.findIdx? (fun x=>decide (x.kind≠4))
def textsM (v:JV) (p:B) (z:Option B):List B×Option B:=match atV v p with
 |none=>([],z)
 |some x=>if x.kind≠5 then ([],failM z p) else match oddN x.parts with
  |none=>(x.parts.map JV.text,z)
  |some i=>([],failM z (behindC p (numC i)))
section
variable {α : Type}
def loopM (f:B→Option B→α×Option B) (p:B):Nat→Nat→List α→Option B→List α×Option B
 |0,_,l,z=>(l,z)
 |k+1,i,l,z=>if z=none then loopM f p k (i+1) (l++ [(f (behindC p (numC i)) z).1]) (f (behindC p (numC i)) z).2 else (l,z)
def manyM (v:JV) (p:B) (z:Option B):Nat×Option B:=match atV v p with
 |none=>(0,failM z p)
 |some x=>if x.kind=5 then (x.parts.length,z) else (0,failM z p)
def listM (f:B→Option B→α×Option B) (v:JV) (p:B) (z:Option B):List α×Option B:=loopM f p (manyM v p z).1 0 [] (manyM v p z).2
def listD (f:B→Option B→α×Option B) (v:JV) (p:B) (z:Option B):List α×Option B:=if atV v p=none then ([],z) else listM f v p z
end
def wordM (ws:List (B×Int)) (t:B×Option B) (p:B):Int×Option B:=match ws.lookup t.1 with
 |some n=>(n,t.2)
 |none=>(0,failM t.2 p)
structure AskB where
 dec:B→Option B
 enc:B→B
def keyM (k:AskB) (v:JV) (p:B) (z:Option B):KeyC×Option B:=
 let a:=textM v (behindC p n_id) (objM v p [n_id,n_secret] z)
 let b:=textM v (behindC p n_secret) a.2
 (⟨a.1,(k.dec b.1).getD []⟩,if (k.dec b.1).isSome then b.2 else failM b.2 (behindC p n_secret))
def backM (v:JV) (p:B) (z:Option B):BackC×Option B:=
 let a:=textM v (behindC p n_addr) (objM v p [n_addr,n_weight] z)
 let b:=intD v (behindC p n_weight) 1 a.2
 (⟨a.1,b.1⟩,b.2)
def breakM (v:JV) (p:B) (z:Option B):(Int×Int)×Option B:=if atV v p=none then ((0,0),z) else
 let a:=intM v (behindC p n_fails) (objM v p [n_fails,n_open] z)
 let b:=intM v (behindC p n_open) a.2
 ((a.1,b.1),b.2)
def probeM (v:JV) (p:B) (z:Option B):ProbeC×Option B:=if atV v p=none then (⟨[],0,0,0,0⟩,z) else
 let a:=textM v (behindC p n_path) (objM v p [n_path,n_every,n_timeout,n_rise,n_fall] z)
 let b:=intM v (behindC p n_every) a.2
 let c:=intM v (behindC p n_timeout) b.2
 let d:=intM v (behindC p n_rise) c.2
 let e:=intM v (behindC p n_fall) d.2
 (⟨a.1,b.1,c.1,d.1,e.1⟩,e.2)
def poolM (v:JV) (p:B) (z:Option B):PoolC×Option B:=
 let a:=textM v (behindC p n_name) (objM v p [n_name,n_backends,n_policy,n_retries,n_timeout,n_breaker,n_probe] z)
 let b:=listM (backM v) v (behindC p n_backends) a.2
 let c:=wordM [(n_turns,1),(n_hash,2)] (textD v (behindC p n_policy) n_turns b.2) (behindC p n_policy)
 let d:=intD v (behindC p n_retries) 0 c.2
 let e:=intD v (behindC p n_timeout) 30 d.2
 let f:=breakM v (behindC p n_breaker) e.2
 let g:=probeM v (behindC p n_probe) f.2
 (⟨a.1,b.1,c.1,d.1,e.1,f.1.1,f.1.2,g.1⟩,g.2)
def authM (v:JV) (p:B) (z:Option B):AuthC×Option B:=if atV v p=none then (⟨false,[],[],[],0⟩,z) else
 let a:=textD v (behindC p n_issuer) [] (objM v p [n_issuer,n_audience,n_scopes,n_leeway] z)
 let b:=textD v (behindC p n_audience) [] a.2
 let c:=textsM v (behindC p n_scopes) b.2
 let d:=intD v (behindC p n_leeway) 0 c.2
 (⟨true,a.1,b.1,c.1,d.1⟩,d.2)
def limM (v:JV) (p:B) (z:Option B):LimC×Option B:=if atV v p=none then (⟨0,0,0,0⟩,z) else
 let a:=wordM [(n_client,1),(n_subject,2)] (textM v (behindC p n_by) (objM v p [n_by,n_rate,n_per,n_burst] z)) (behindC p n_by)
 let b:=intM v (behindC p n_rate) a.2
 let c:=intM v (behindC p n_per) b.2
 let d:=intM v (behindC p n_burst) c.2
 (⟨a.1,b.1,c.1,d.1⟩,d.2)
def routeM (v:JV) (p:B) (z:Option B):RouteC×Option B:=
 let a:=textM v (behindC p n_host) (objM v p [n_host,n_path,n_methods,n_pool,n_auth,n_limit] z)
 let b:=textM v (behindC p n_path) a.2
 let c:=textsM v (behindC p n_methods) b.2
 let d:=textM v (behindC p n_pool) c.2
 let e:=authM v (behindC p n_auth) d.2
 let f:=limM v (behindC p n_limit) e.2
 (⟨a.1,b.1,c.1,d.1,e.1,f.1⟩,f.2)
def cfgM (k:AskB) (v:JV):CfgC×Option B:=
 let a:=listD (keyM k v) v n_keys (objM v [] [n_keys,n_pools,n_routes,n_maxhead,n_maxbody,n_maxconns,n_idle,n_header] none)
 let b:=listM (poolM v) v n_pools a.2
 let c:=listM (routeM v) v n_routes b.2
 let d:=intD v n_maxhead 8192 c.2
 let e:=intD v n_maxbody 65536 d.2
 let f:=intD v n_maxconns 64 e.2
 let g:=intD v n_idle 60 f.2
 let h:=intD v n_header 10 g.2
 (⟨a.1,b.1,c.1,d.1,e.1,f.1,g.1,h.1⟩,h.2)
def CfgC.zero:CfgC:=⟨[],[],[],0,0,0,0,0⟩
def parseC (k:AskC) (kb:AskB) (l:B):CfgC×B×Nat:=
 if (parse l).2.2≠0 then (.zero,[],(parse l).2.2) else match (cfgM kb (parse l).1).2 with
 |some p=>(.zero,p,70)
 |none=>if validC k (cfgM kb (parse l).1).1= [] then ((cfgM kb (parse l).1).1,[],0) else (.zero,validC k (cfgM kb (parse l).1).1,70)
theorem objM_some (v:JV) (p:B) (ns:List B) (q:B):objM v p ns (some q)=some q:=by unfold objM;split <;> rfl
theorem textM_some (v:JV) (p q:B):(textM v p (some q)).2=some q:=by unfold textM;simp only;split <;> rfl
theorem textD_some (v:JV) (p d q:B):(textD v p d (some q)).2=some q:=by unfold textD;split;rfl;exact textM_some v p q
theorem intM_some (v:JV) (p q:B):(intM v p (some q)).2=some q:=by unfold intM;simp only;split <;> rfl
theorem intD_some (v:JV) (p:B) (d:Int) (q:B):(intD v p d (some q)).2=some q:=by unfold intD;split;rfl;exact intM_some v p q
theorem textsM_some (v:JV) (p q:B):(textsM v p (some q)).2=some q:=by
 unfold textsM;split
 · rfl
 · split
   · rfl
   · split <;> rfl
theorem loopM_some {α:Type} (f:B→Option B→α×Option B) (p q:B):∀ (k i:Nat) (l:List α),loopM f p k i l (some q)=(l,some q)
 |0,_,_=>rfl
 |_+1,_,_=>by unfold loopM;rw [if_neg (by simp)]
theorem manyM_some (v:JV) (p q:B):(manyM v p (some q)).2=some q:=by unfold manyM;split;rfl;split <;> rfl
theorem listM_some {α:Type} (f:B→Option B→α×Option B) (v:JV) (p q:B):listM f v p (some q)=([],some q):=by unfold listM;rw [manyM_some,loopM_some]
theorem wordM_some (ws:List (B×Int)) (t:B×Option B) (p q:B) (h:t.2=some q):(wordM ws t p).2=some q:=by unfold wordM;rw [h];split <;> rfl
def Pl (n:Nat) (r:Option Nat) (z:Int):Prop:=match r with
 |some i=>z=(i:Int)
 |none=>z<0∨(n:Int)≤z
theorem Pl.none_neg (n:Nat):Pl n none (-1):=.inl (by omega)
theorem pl_ok {s:B}{v:Int} (h:Lib.atoiAll s= .ok v) (hi:Lib.itoa v=s) (n:Nat):Pl n (numAt n s) v:=by
 unfold numAt;rw [h];show Pl n (if 0≤v∧v<n∧Lib.itoa v=s then some v.toNat else none) v;by_cases hc:0≤v∧v<n
 · rw [if_pos ⟨hc.1,hc.2,hi⟩];show v=((v.toNat:Nat):Int);omega
 · rw [if_neg (fun q=>hc ⟨q.1,q.2.1⟩)];show v<0∨(n:Int)≤v;omega
theorem pl_no {s:B}{v:Int} (h:Lib.atoiAll s= .ok v) (hi:Lib.itoa v≠s) (n:Nat):Pl n (numAt n s) (-1):=by
 unfold numAt;rw [h];show Pl n (if 0≤v∧v<n∧Lib.itoa v=s then some v.toNat else none) (-1);rw [if_neg (fun q=>hi q.2.2)];exact Pl.none_neg n
theorem number_any_k (s:B) (hs:s.length≤1048577) (w:World) (hE:Env_k w):Calls Tryz.prog 329 #[.string (str s)] w fun e w'=>∃ z:Int,e= .returned (.int .i64 z)∧(∀ n:Nat,Pl n (numAt n s) z)∧Below w.heap.size w w':=by
 have hsz:(str s).size≤1048577:=by rw [str_size];exact hs
 have hd:(str s).data.toList=s:=by simp
 have HE:=hid hE;have HSz:=hid hsz;cases ha:Lib.atoiAll s with
 |ok v=>
  have hb:=Lib.atoiAll_bounds ha;have HA:=hid (show Lib.atoiAll (str s).data.toList= .ok v by rw [hd];exact ha);by_cases hi:Lib.itoa v=s
  · have HP:=hid (pl_ok ha hi);have hq:(⟨(Lib.itoa v).toArray⟩:ByteArray)=str s:=by rw [hi]
    obtain⟨S,hS⟩:∃ S,str s=S:=⟨_,rfl⟩;rw [hS] at HA HSz hq ⊢;clear ha hi hd hS hsz hs hE;go_enter Tryz.func329,Tryz.ntmps329;go_wp2_with (first
     |(go_at_call 250;refine(Tryz.strconv_Atoi_ok S (by have:=HSz.out;omega) v HA.out _).mono ?_;rintro e w1 ⟨rfl,hw⟩;have HB1:=hid (below_or hw);clear hw)
     |(go_at_call 204;refine(Tryz.strconv_Itoa v hb.1 hb.2 w1 (HE.out.below HB1.out).pow).mono ?_;rintro e w2 ⟨rfl,k,os,hw⟩;have HB2:=hid (below_out HB1.out (show Below w1.heap.size w1 w2 by rw [hw];exact Lib.below_grow _ _ (Nat.le_refl _) _ _));clear hw;rw [hq]))
    go_ret;exact⟨v,rfl,HP.out,HB2.out⟩
  · have HP:=hid (pl_no ha hi);have hq:¬(⟨(Lib.itoa v).toArray⟩:ByteArray)=str s:=str_ne hi;obtain⟨S,hS⟩:∃ S,str s=S:=⟨_,rfl⟩;obtain⟨T,hT⟩:∃ T:ByteArray,⟨(Lib.itoa v).toArray⟩=T:=⟨_,rfl⟩;have HT:=hid hT;rw [hS] at HA HSz hq ⊢;rw [hT] at hq;have hq2:=ne_list hq;clear ha hi hd hS hsz hs hE hT;go_enter Tryz.func329,Tryz.ntmps329;go_wp2_with (first
     |(go_at_call 250;refine(Tryz.strconv_Atoi_ok S (by have:=HSz.out;omega) v HA.out _).mono ?_;rintro e w1 ⟨rfl,hw⟩;have HB1:=hid (below_or hw);clear hw)
     |(go_at_call 204;refine(Tryz.strconv_Itoa v hb.1 hb.2 w1 (HE.out.below HB1.out).pow).mono ?_;rintro e w2 ⟨rfl,k,os,hw⟩;have HB2:=hid (below_out HB1.out (show Below w1.heap.size w1 w2 by rw [hw];exact Lib.below_grow _ _ (Nat.le_refl _) _ _));clear hw;rw [HT.out]))
    go_ret;exact⟨-1,rfl,HP.out,HB2.out⟩
 | «syntax»=>
  have HA:=hid (show Lib.atoiAll (str s).data.toList= .«syntax» by rw [hd];exact ha);have HP:=hid (show ∀ n:Nat,Pl n (numAt n s) (-1) from fun n=>by unfold numAt;rw [ha];exact Pl.none_neg n);obtain⟨S,hS⟩:∃ S,str s=S:=⟨_,rfl⟩;rw [hS] at HA HSz ⊢;clear ha hd hS hsz hs hE;go_enter Tryz.func329,Tryz.ntmps329;go_wp2_with (go_at_call 250;obtain⟨te,pe,hv⟩:=HE.out.syn;refine(Tryz.strconv_Atoi_syntax S (by have:=HSz.out;omega) HA.out _ _ hv (Or.inr ⟨_,_,rfl⟩)).mono ?_;rintro e w1 ⟨N,rfl,_,_,hb1⟩;have HB1:=hid hb1;clear hb1 hv);go_ret;exact⟨-1,rfl,HP.out,HB1.out⟩
 |range=>
  have HA:=hid (show Lib.atoiAll (str s).data.toList= .range by rw [hd];exact ha);have HP:=hid (show ∀ n:Nat,Pl n (numAt n s) (-1) from fun n=>by unfold numAt;rw [ha];exact Pl.none_neg n);obtain⟨S,hS⟩:∃ S,str s=S:=⟨_,rfl⟩;rw [hS] at HA HSz ⊢;clear ha hd hS hsz hs hE;go_enter Tryz.func329,Tryz.ntmps329;go_wp2_with (go_at_call 250;obtain⟨te,pe,hv⟩:=HE.out.rng;refine(Tryz.strconv_Atoi_range S (by have:=HSz.out;omega) HA.out _ _ hv (Or.inr ⟨_,_,rfl⟩)).mono ?_;rintro e w1 ⟨N,rfl,_,_,hb1⟩;have HB1:=hid hb1;clear hb1 hv);go_ret;exact⟨-1,rfl,HP.out,HB1.out⟩
theorem idx_spec:∀ (ns:List B) (s:B) (i:Nat),Lib.idxFromS (ns.map str) (str s) i=if ns.idxOf s<ns.length then ((i+ns.idxOf s:Nat):Int) else -1
 | [],s,i=>by simp [Lib.idxFromS]
 |x::xs,s,i=>by
  rw [List.map_cons,Lib.idxFromS];by_cases h:x=s
  · subst h;simp
  · have h2:=str_ne h;have h3:(x== s)=false:=by simpa using h
    have:=idx_spec xs s (i+1);rw [List.idxOf_cons,h3];simp only [cond_false,List.length_cons];split
    · rename_i q
      simp_all
    · rw [this];by_cases q:xs.idxOf s<xs.length
      · rw [if_pos q,if_pos (by omega)];congr 1;omega
      · rw [if_neg q,if_neg (by omega)]
theorem index_any_k {w:World}{ns:List B}{p:Option Addr}{c:Nat} (s:B) (h:NamesOn w ns p) (hn:ns.length≤1048576):Calls Tryz.prog 207 #[.slice p ns.length c,.string (str s)] w fun e w'=>∃ z:Int,e= .returned (.int .i64 z)∧(∀ m:Nat,Pl m (nameAt m ns s) z)∧w'=w:=by
 have key:∀ m:Nat,Pl m (nameAt m ns s) (Lib.idxOfS (ns.map str) (str s)):=by
  intro m;unfold Lib.idxOfS nameAt;rw [idx_spec];by_cases q:ns.idxOf s<ns.length
  · rw [if_pos q];by_cases q2:ns.idxOf s<m
    · rw [if_pos ⟨q,q2⟩];show ((0+ns.idxOf s:Nat):Int)=_;simp
    · rw [if_neg (fun z=>q2 z.2)];right;omega
  · rw [if_neg q,if_neg (fun z=>q z.1)];exact Pl.none_neg m
 cases ns with
 |nil=>
  refine(Tryz.slices_Index_string_empty p c (str s) w).mono ?_;rintro e w' ⟨rfl,rfl⟩;exact⟨_,rfl,key,rfl⟩
 |cons x xs=>
  obtain⟨g,o,rfl,_⟩:=h 0 x rfl;refine(Tryz.slices_Index_string g o (x::xs).length c ((x::xs).map str) (str s) w (by simp) (by omega) (names_list h)).mono ?_;rintro e w' ⟨rfl,rfl⟩;refine⟨_,rfl,?_,rfl⟩;rw [take_map];exact key
theorem placeOf_any (t:JV) (s:B) (hs:s.length≤1048577) (w:World) (cs:List Value) (hE:Env_k w) (hv:ValOn_k w t cs) (hn:t.names.length≤1048576):Calls Tryz.prog 294 #[.agg cs.toArray,.string (str s)] w fun e w'=>∃ z:Int,e= .returned (.int .i64 z)∧Pl t.parts.length (placeN t s) z∧Below w.heap.size w w':=by
 obtain⟨k,b,tx,n,hh,ls,ns⟩:=t;obtain⟨p1,c1,p2,c2,rfl,hp1,hp2⟩:=hv.open;simp only [JV.parts,JV.names] at hn ⊢;obtain⟨n1,e1⟩:∃ n1,ls.length=n1:=⟨_,rfl⟩;obtain⟨n2,e2⟩:∃ n2,ns.length=n2:=⟨_,rfl⟩;have HB0:=hid (below_new w (C7 k b tx n hh p1 n1 c1 p2 n2 c2));have HE:=hid hE;have HN:=hid (hp2.below HB0.out);have HNl:=hid e2;have HNn:=hid hn;have HSz:=hid hs;rw [e1,e2];by_cases h0:s= []
 · subst h0;have HP:=hid (show Pl n1 (placeN (.mk k b tx n hh ls ns) []) (-1) from by rw [place_nil];exact Pl.none_neg n1);clear hE hv hp1 hp2 hn e1 e2 hs;go_enter Tryz.func294,Tryz.ntmps294;go_wp2;go_ret;exact⟨-1,rfl,HP.out,HB0.out⟩
 · have hq:¬str s=⟨#[]⟩:=str_ne (b:=[]) h0;by_cases h6:k=6
   · subst h6;have HP:=hid (show placeN (.mk 6 b tx n hh ls ns) s=nameAt n1 ns s from by rw [place_obj h0,e1]);obtain⟨S,hS⟩:∃ S,str s=S:=⟨_,rfl⟩;rw [hS] at hq ⊢;have hq2:=ne_empty hq;have HS:=hid hS;clear hE hv hp1 hp2 hn e1 e2 hs h0 hS;go_enter Tryz.func294,Tryz.ntmps294;go_wp2_with (go_at_call 207;have hcall:=index_any_k (c:=c2) s HN.out HNn.out;rw [HS.out,HNl.out] at hcall;(with_reducible refine hcall.mono ?_);clear hcall;rintro e w1 ⟨z,rfl,hz,rfl⟩;have HZ:=hid hz;clear hz);go_ret;exact⟨z,rfl,by rw [HP.out];exact HZ.out n1,HB0.out⟩
   · have q6:(k== 6)=false:=by simpa using h6
     by_cases h5:k=5
     · subst h5;have HP:=hid (show placeN (.mk 5 b tx n hh ls ns) s=numAt n1 s from by rw [place_list h0,e1]);obtain⟨S,hS⟩:∃ S,str s=S:=⟨_,rfl⟩;rw [hS] at hq ⊢;have hq2:=ne_empty hq;have HS:=hid hS;clear hE hv hp1 hp2 hn e1 e2 hs h0 hS h6 q6;go_enter Tryz.func294,Tryz.ntmps294;go_wp2_with (go_at_call 329;have hcall:=number_any_k s HSz.out _ (HE.out.below HB0.out);rw [HS.out] at hcall;(with_reducible refine hcall.mono ?_);clear hcall;rintro e w1 ⟨z,rfl,hz,hb⟩;have HZ:=hid hz;have HB1:=hid (below_out HB0.out hb);clear hz hb);go_ret;exact⟨z,rfl,by rw [HP.out];exact HZ.out n1,HB1.out⟩
     · have q5:(k== 5)=false:=by simpa using h5
       have HP:=hid (show placeN (.mk k b tx n hh ls ns) s=none from place_else h6 h5);obtain⟨S,hS⟩:∃ S,str s=S:=⟨_,rfl⟩;rw [hS] at hq ⊢;have hq2:=ne_empty hq;clear hE hv hp1 hp2 hn e1 e2 hs h0 hS;go_enter Tryz.func294,Tryz.ntmps294;go_wp2;go_ret;exact⟨-1,rfl,by rw [HP.out];exact Pl.none_neg n1,HB0.out⟩
end Go.Proofs.YtlmefgjhbohjlaaGreatDoor
