/- Where what comes next can't become a character any more. -/
import Derived.Test.YtlmefgjhbohjlaaGreatDoorJFull
namespace Go.Proofs.YtlmefgjhbohjlaaGreatDoor
set_option maxRecDepth 20000
set_option maxHeartbeats 4000000
open Go.RowKit
theorem ext_list_j (s:ByteArray) (a b:Nat):(s.extract a b).data.toList=(s.data.toList.drop a).take (b-a):=by
 rw [ByteArray.data_extract,Array.toList_extract]
theorem ext_le (s:ByteArray) (a b:Nat):(s.extract a b).size≤s.size:=by
 show (s.extract a b).data.toList.length≤s.data.toList.length;rw [ext_list_j,List.length_take,List.length_drop];omega
theorem full_ext {s:ByteArray}{l:B}{p j:Nat} (hd:s.data.toList.drop p=l) (hl:l≠ []) (hm:s.size≤140737488355328) (w:World) (hT:Tabs w):
 Calls Tryz.prog 323 #[.string (s.extract p (p+j+1))] w fun e w'=>e= .returned (.bool (full (l.take (j+1))))∧Below w.heap.size w w':=by
 have e:(s.extract p (p+j+1)).data.toList=l.take (j+1):=by rw [ext_list_j,hd,show p+j+1-p=j+1 by omega]
 cases l with
 |nil=>exact absurd rfl hl
 |cons c t=>
  rw [List.take_succ_cons] at e ⊢;exact full_any _ c _ e (Nat.le_trans (ext_le _ _ _) hm) w hT
theorem Rd.tabs {w w':World} (h:Tabs w) (hb:Below w.heap.size w w'):Tabs w':=Utf8Tabs_below h hb
def Rd2 (w:World) (b:Nat) (s:ByteArray) (p:Nat):Prop:=w.cell? ⟨b,0,none⟩=some (.string s)∧w.cell? ⟨b,1,none⟩=some (.int .i64 (p:Int))
theorem At.two {w:World}{b:Nat}{s:ByteArray}{l:B}{d p:Nat} (h:At w b s l d p):Rd2 w b s p:=⟨h.c0,h.c1⟩
theorem Rd2.below {w w':World}{b:Nat}{s:ByteArray}{p:Nat} (h:Rd2 w b s p) (hb:Below w.heap.size w w'):Rd2 w' b s p:=by
 have hlt:b<w.heap.size:=by
  have:=h.1;unfold World.cell? at this;cases e:w.heap[b]? with
  |none=>simp [e] at this
  |some o=>exact lt_of_heap e
 exact⟨by rw [hb.cell (by exact hlt)];exact h.1,by rw [hb.cell (by exact hlt)];exact h.2⟩
theorem broken_any {w:World}{b:Nat}{s:ByteArray}{l:B}{d:Nat} (hT:Tabs w) (hl:l≠ []) (h0:(uni l).1=0) (p:Nat) (hA:At w b s l d p):
 Calls Tryz.prog 287 #[.pointer (some ⟨b,0,none⟩)] w fun e w'=>e= .returned (.int .i64 ((p+(uni l).2:Nat):Int))∧Below w.heap.size w w':=by
 obtain⟨u1,u2,u3⟩:=uni_broken l hl h0;obtain⟨K0,HK⟩:∃ K0,Hid ((uni l).2=K0):=⟨_,rfl⟩;rw [HK.out] at u1 u2 u3 ⊢;have c1:=hA.c1;have hm:=hA.most;have hle:=hA.le;have hlen:=hA.len;have HD:=hid (And.intro hA.drop hl);have HU:=hid (And.intro u1 u2);have H0:=hid hA.two;have HT0:=hid hT;clear u1 u2 hT hA h0 hl;go_enter Tryz.func287,Tryz.ntmps287;go_wp2;go_loopg [3] (K0+1) (fun gk s3 wr=>∃ j,j≤K0∧gk=K0-j+1∧s3= .int .i64 ((p:Int)+(j:Int))∧Below w.heap.size w wr)
 case atStart=>exact⟨0,by omega,by omega,by simp,Below.refl _ _⟩
 case round=>
  obtain⟨j,hj,rfl,rfl,hbw⟩:=hrel;have HB:=hid hbw;have H2:=hid (H0.out.below hbw);have HT:=hid (Rd.tabs HT0.out hbw);have k1:=H2.out.1;clear hbw;by_cases hjk:j<K0
  · have hq:=HU.out.1 j hjk;have hlt:(p:Int)+(j:Int)<(s.size:Int):=by omega
    have hwr:IntKind.i64.wrap ((p:Int)+(j:Int)+1)=(p:Int)+(j:Int)+1:=by rw [IntKind.wrap_i64];omega
    have hto:((p:Int)+(j:Int)+1).toNat=p+j+1:=by omega
    have HF:=hid hq.2;clear hq
    · go_wp2_with fail;refine wp_region_noPanic ?_;refine any_begin 22 (by kernel_rfl) (by kernel_rfl) ?_;refine late_begin (fun U=>Rd2 U b s p) (fun _=>false) (H2.out.below (below_drew_j (Below.refl _ _) 1)) (fun hS=>?_);refine ltk (i:=0) (some 8) rfl rfl (v:= ?v0a) ?hy0a hS ?rest0a
      case hy0a=>intro w0 hSw;obtain⟨k0,k1⟩:=hSw;go_simp;try with_reducible rfl
      simp only [Act.put,sA,sB,sC];refine ltk (i:=1) (some 9) rfl rfl (v:= ?v1a) ?hy1a hS ?rest1a
      case hy1a=>intro w0 hSw;obtain⟨k0,k1⟩:=hSw;go_simp;try with_reducible rfl
      simp only [Act.put,sA,sB,sC];refine ltk (i:=2) (some 10) rfl rfl (v:= ?v2a) ?hy2a hS ?rest2a
      case hy2a=>intro w0 hSw;obtain⟨k0,k1⟩:=hSw;go_simp;try with_reducible rfl
      simp only [Act.put,sA,sB,sC];refine ltk (i:=3) (some 11) rfl rfl (v:= ?v3a) ?hy3a hS ?rest3a
      case hy3a=>intro w0 hSw;obtain⟨k0,k1⟩:=hSw;go_simp;try with_reducible rfl
      simp only [Act.put,sA,sB,sC];refine ltk (i:=4) (some 12) rfl rfl (v:= ?v4a) ?hy4a hS ?rest4a
      case hy4a=>intro w0 hSw;obtain⟨k0,k1⟩:=hSw;go_simp;try with_reducible rfl
      simp only [Act.put,sA,sB,sC];refine ltk (i:=5) (some 13) rfl rfl (v:= ?v5a) ?hy5a hS ?rest5a
      case hy5a=>intro w0 hSw;obtain⟨k0,k1⟩:=hSw;go_simp;try with_reducible rfl
      simp only [Act.put,sA,sB,sC];refine ltk (i:=6) (some 14) rfl rfl (v:= ?v6a) ?hy6a hS ?rest6a
      case hy6a=>intro w0 hSw;obtain⟨k0,k1⟩:=hSw;go_simp;try with_reducible rfl
      simp only [Act.put,sA,sB,sC];refine ltk (i:=7) (some 15) rfl rfl (v:= ?v7a) ?hy7a hS ?rest7a
      case hy7a=>intro w0 hSw;obtain⟨k0,k1⟩:=hSw;go_simp;try with_reducible rfl
      simp only [Act.put,sA,sB,sC];refine ltk (i:=8) (some 16) rfl rfl (v:= ?v8a) ?hy8a hS ?rest8a
      case hy8a=>intro w0 hSw;obtain⟨k0,k1⟩:=hSw;go_simp;try with_reducible rfl
      simp only [Act.put,sA,sB,sC];refine ltk (i:=9) (some 17) rfl rfl (v:= ?v9a) ?hy9a hS ?rest9a
      case hy9a=>intro w0 hSw;obtain⟨k0,k1⟩:=hSw;go_simp;try with_reducible rfl
      simp only [Act.put,sA,sB,sC];refine ltk (i:=10) (some 18) rfl rfl (v:= ?v10a) ?hy10a hS ?rest10a
      case hy10a=>intro w0 hSw;obtain⟨k0,k1⟩:=hSw;go_simp;try with_reducible rfl
      simp only [Act.put,sA,sB,sC];refine ltk (i:=11) (some 19) rfl rfl (v:= ?v11a) ?hy11a hS ?rest11a
      case hy11a=>intro w0 hSw;obtain⟨k0,k1⟩:=hSw;go_simp;try with_reducible rfl
      simp only [Act.put,sA,sB,sC];refine ltk (i:=12) (some 20) rfl rfl (v:= ?v12a) ?hy12a hS ?rest12a
      case hy12a=>intro w0 hSw;obtain⟨k0,k1⟩:=hSw;go_simp;try with_reducible rfl
      simp only [Act.put,sA,sB,sC];refine ltk (i:=13) (some 21) rfl rfl (v:= ?v13a) ?hy13a hS ?rest13a
      case hy13a=>intro w0 hSw;obtain⟨k0,k1⟩:=hSw;go_simp;try with_reducible rfl
      simp only [Act.put,sA,sB,sC];refine ltk (i:=14) (some 22) rfl rfl (v:= ?v14a) ?hy14a hS ?rest14a
      case hy14a=>intro w0 hSw;obtain⟨k0,k1⟩:=hSw;go_simp;try with_reducible rfl
      simp only [Act.put,sA,sB,sC];refine ltk (i:=15) (some 23) rfl rfl (v:= ?v15a) ?hy15a hS ?rest15a
      case hy15a=>intro w0 hSw;obtain⟨k0,k1⟩:=hSw;go_simp;try with_reducible rfl
      simp only [Act.put,sA,sB,sC];refine ltk (i:=16) (some 24) rfl rfl (v:= ?v16a) ?hy16a hS ?rest16a
      case hy16a=>intro w0 hSw;obtain⟨k0,k1⟩:=hSw;go_simp;try with_reducible rfl
      simp only [Act.put,sA,sB,sC];refine ltk (i:=17) (some 25) rfl rfl (v:= ?v17a) ?hy17a hS ?rest17a
      case hy17a=>intro w0 hSw;obtain⟨k0,k1⟩:=hSw;go_simp;try with_reducible rfl
      simp only [Act.put,sA,sB,sC];refine late_take (i:=18) (some 26) rfl rfl (by kernel_rfl) (by kernel_rfl) (by kernel_rfl) (by kernel_rfl) (by kernel_rfl) (fun _ _ _ h=>h) (by rfl) (v:=.string (s.extract p (p+j+1))) ?hy18a hS ?rest18a
      case hy18a=>intro w0 hSw;go_simp;rw [if_pos (by omega),if_pos (by omega)]
      simp only [Act.put,sA,sB,sC];refine wpAnyD_one (i:=19) (by kernel_rfl) rfl (fun K hK=>?_);go_simp;go_at_call 323;refine(full_ext HD.out.1 HD.out.2 hm _ (Rd.tabs HT.out (below_drew_j (Below.refl _ _) 1))).mono ?_;rintro e w1 ⟨rfl,hb1⟩;rw [HF.out];have HB1:=hid ((below_drew_j (Below.refl _ wr) 1).trans hb1);clear hb1;refine hK _ _ ⟨fun _=>H2.out.below HB1.out,?_⟩;clear hK K;replace hS:=H2.out.below HB1.out;refine ltk (i:=20) (some 28) rfl rfl (v:= ?v20a) ?hy20a hS ?rest20a
      case hy20a=>intro w0 hSw;obtain⟨k0,k1⟩:=hSw;go_simp;try with_reducible rfl
      simp only [Act.put,sA,sB,sC];refine ltk (i:=21) (some 29) rfl rfl (v:= ?v21a) ?hy21a hS ?rest21a
      case hy21a=>intro w0 hSw;obtain⟨k0,k1⟩:=hSw;go_simp;try with_reducible rfl
      simp only [Act.put,sA,sB,sC];refine late_done (by kernel_rfl) ?_ _;refine NoPanic.normal ?_;clear hS;go_wp2;go_roundg (K0-(j+1)+1)
      case measure=>omega
      case rel=>exact⟨j+1,by omega,rfl,by(congr 1) <;> (push_cast;omega),HB.out.trans (HB1.out.mono HB.out.size)⟩
  · obtain rfl:j=K0:=by omega
    by_cases hjl:j<l.length
    · have hq:=HU.out.2 hjl;have hlt:(p:Int)+(j:Int)<(s.size:Int):=by omega
      have hwr:IntKind.i64.wrap ((p:Int)+(j:Int)+1)=(p:Int)+(j:Int)+1:=by rw [IntKind.wrap_i64];omega
      have hto:((p:Int)+(j:Int)+1).toNat=p+j+1:=by omega
      have HF:=hid hq;clear hq;go_wp2_with fail;refine wp_region_noPanic ?_;refine any_begin 22 (by kernel_rfl) (by kernel_rfl) ?_;refine late_begin (fun U=>Rd2 U b s p) (fun _=>false) (H2.out.below (below_drew_j (Below.refl _ _) 1)) (fun hS=>?_);refine ltk (i:=0) (some 8) rfl rfl (v:= ?v0b) ?hy0b hS ?rest0b
      case hy0b=>intro w0 hSw;obtain⟨k0,k1⟩:=hSw;go_simp;try with_reducible rfl
      simp only [Act.put,sA,sB,sC];refine ltk (i:=1) (some 9) rfl rfl (v:= ?v1b) ?hy1b hS ?rest1b
      case hy1b=>intro w0 hSw;obtain⟨k0,k1⟩:=hSw;go_simp;try with_reducible rfl
      simp only [Act.put,sA,sB,sC];refine ltk (i:=2) (some 10) rfl rfl (v:= ?v2b) ?hy2b hS ?rest2b
      case hy2b=>intro w0 hSw;obtain⟨k0,k1⟩:=hSw;go_simp;try with_reducible rfl
      simp only [Act.put,sA,sB,sC];refine ltk (i:=3) (some 11) rfl rfl (v:= ?v3b) ?hy3b hS ?rest3b
      case hy3b=>intro w0 hSw;obtain⟨k0,k1⟩:=hSw;go_simp;try with_reducible rfl
      simp only [Act.put,sA,sB,sC];refine ltk (i:=4) (some 12) rfl rfl (v:= ?v4b) ?hy4b hS ?rest4b
      case hy4b=>intro w0 hSw;obtain⟨k0,k1⟩:=hSw;go_simp;try with_reducible rfl
      simp only [Act.put,sA,sB,sC];refine ltk (i:=5) (some 13) rfl rfl (v:= ?v5b) ?hy5b hS ?rest5b
      case hy5b=>intro w0 hSw;obtain⟨k0,k1⟩:=hSw;go_simp;try with_reducible rfl
      simp only [Act.put,sA,sB,sC];refine ltk (i:=6) (some 14) rfl rfl (v:= ?v6b) ?hy6b hS ?rest6b
      case hy6b=>intro w0 hSw;obtain⟨k0,k1⟩:=hSw;go_simp;try with_reducible rfl
      simp only [Act.put,sA,sB,sC];refine ltk (i:=7) (some 15) rfl rfl (v:= ?v7b) ?hy7b hS ?rest7b
      case hy7b=>intro w0 hSw;obtain⟨k0,k1⟩:=hSw;go_simp;try with_reducible rfl
      simp only [Act.put,sA,sB,sC];refine ltk (i:=8) (some 16) rfl rfl (v:= ?v8b) ?hy8b hS ?rest8b
      case hy8b=>intro w0 hSw;obtain⟨k0,k1⟩:=hSw;go_simp;try with_reducible rfl
      simp only [Act.put,sA,sB,sC];refine ltk (i:=9) (some 17) rfl rfl (v:= ?v9b) ?hy9b hS ?rest9b
      case hy9b=>intro w0 hSw;obtain⟨k0,k1⟩:=hSw;go_simp;try with_reducible rfl
      simp only [Act.put,sA,sB,sC];refine ltk (i:=10) (some 18) rfl rfl (v:= ?v10b) ?hy10b hS ?rest10b
      case hy10b=>intro w0 hSw;obtain⟨k0,k1⟩:=hSw;go_simp;try with_reducible rfl
      simp only [Act.put,sA,sB,sC];refine ltk (i:=11) (some 19) rfl rfl (v:= ?v11b) ?hy11b hS ?rest11b
      case hy11b=>intro w0 hSw;obtain⟨k0,k1⟩:=hSw;go_simp;try with_reducible rfl
      simp only [Act.put,sA,sB,sC];refine ltk (i:=12) (some 20) rfl rfl (v:= ?v12b) ?hy12b hS ?rest12b
      case hy12b=>intro w0 hSw;obtain⟨k0,k1⟩:=hSw;go_simp;try with_reducible rfl
      simp only [Act.put,sA,sB,sC];refine ltk (i:=13) (some 21) rfl rfl (v:= ?v13b) ?hy13b hS ?rest13b
      case hy13b=>intro w0 hSw;obtain⟨k0,k1⟩:=hSw;go_simp;try with_reducible rfl
      simp only [Act.put,sA,sB,sC];refine ltk (i:=14) (some 22) rfl rfl (v:= ?v14b) ?hy14b hS ?rest14b
      case hy14b=>intro w0 hSw;obtain⟨k0,k1⟩:=hSw;go_simp;try with_reducible rfl
      simp only [Act.put,sA,sB,sC];refine ltk (i:=15) (some 23) rfl rfl (v:= ?v15b) ?hy15b hS ?rest15b
      case hy15b=>intro w0 hSw;obtain⟨k0,k1⟩:=hSw;go_simp;try with_reducible rfl
      simp only [Act.put,sA,sB,sC];refine ltk (i:=16) (some 24) rfl rfl (v:= ?v16b) ?hy16b hS ?rest16b
      case hy16b=>intro w0 hSw;obtain⟨k0,k1⟩:=hSw;go_simp;try with_reducible rfl
      simp only [Act.put,sA,sB,sC];refine ltk (i:=17) (some 25) rfl rfl (v:= ?v17b) ?hy17b hS ?rest17b
      case hy17b=>intro w0 hSw;obtain⟨k0,k1⟩:=hSw;go_simp;try with_reducible rfl
      simp only [Act.put,sA,sB,sC];refine late_take (i:=18) (some 26) rfl rfl (by kernel_rfl) (by kernel_rfl) (by kernel_rfl) (by kernel_rfl) (by kernel_rfl) (fun _ _ _ h=>h) (by rfl) (v:=.string (s.extract p (p+j+1))) ?hy18b hS ?rest18b
      case hy18b=>intro w0 hSw;go_simp;rw [if_pos (by omega),if_pos (by omega)]
      simp only [Act.put,sA,sB,sC];refine wpAnyD_one (i:=19) (by kernel_rfl) rfl (fun K hK=>?_);go_simp;go_at_call 323;refine(full_ext HD.out.1 HD.out.2 hm _ (Rd.tabs HT.out (below_drew_j (Below.refl _ _) 1))).mono ?_;rintro e w1 ⟨rfl,hb1⟩;rw [HF.out];have HB1:=hid ((below_drew_j (Below.refl _ wr) 1).trans hb1);clear hb1;refine hK _ _ ⟨fun _=>H2.out.below HB1.out,?_⟩;clear hK K;replace hS:=H2.out.below HB1.out;refine ltk (i:=20) (some 28) rfl rfl (v:= ?v20b) ?hy20b hS ?rest20b
      case hy20b=>intro w0 hSw;obtain⟨k0,k1⟩:=hSw;go_simp;try with_reducible rfl
      simp only [Act.put,sA,sB,sC];refine ltk (i:=21) (some 29) rfl rfl (v:= ?v21b) ?hy21b hS ?rest21b
      case hy21b=>intro w0 hSw;obtain⟨k0,k1⟩:=hSw;go_simp;try with_reducible rfl
      simp only [Act.put,sA,sB,sC];refine late_done (by kernel_rfl) ?_ _;refine NoPanic.normal ?_;clear hS;go_wp2;go_ret;exact⟨by push_cast;rfl,HB.out.trans (HB1.out.mono HB.out.size)⟩
    · have hlt:decide ((p:Int)+(j:Int)<(s.size:Int))=false:=by simp only [decide_eq_false_iff_not];omega
      go_wp2;go_quiet (fail);go_wp2;go_ret;exact⟨by push_cast;rfl,below_drew_j HB.out _⟩
theorem dec_ext {s:ByteArray}{l:B}{p:Nat} (hd:s.data.toList.drop p=l) (hl:l≠ []):Lib.decodeGo (s.extract p s.size)=Lib.decodeL l:=by
 have e:(s.extract p s.size).data.toList=l:=by
  rw [ext_list_j,hd];apply List.take_of_length_le;rw [←hd,List.length_drop];exact Nat.le_refl _
 have e2:s.extract p s.size=⟨l.toArray⟩:=by
  apply ByteArray.ext;apply Array.toList_inj.1;rw [e]
 unfold Lib.decodeGo Lib.decodeL;rw [e2,if_neg];show ¬l.toArray.size=0;simpa using hl
theorem decodeN_le (n b0 b1 b2 b3:Nat) (h0:b0<256):(Lib.decodeN n b0 b1 b2 b3).1≤1114111:=by
 unfold Lib.decodeN
 (repeat' split) <;> simp only <;> omega
theorem decodeL_most (l:B):(Lib.decodeL l).1≤1114111:=by
 rw [Lib.decodeL_N];exact decodeN_le _ _ _ _ _ (l.getD 0 0).toNat_lt
theorem code_most {l:B}{n:Nat}{u:B} (h:code l= .ok n u):n≤1114111:=by
 unfold code at h;cases hf:four 4 0 l with
 |err k v=>rw [hf] at h;simp at h
 |ok c v=>
  rw [hf] at h;simp only at h;have:=four_bound _ _ _ _ _ hf;split at h
  · simp at h
  · split at h
    · cases hg:lowHalf v with
      |err k x=>rw [hg] at h;simp at h
      |ok m x=>
       rw [hg] at h;have hr:=low_range hg;simp at h;omega
    · simp at h;omega
theorem escape_most {l:B}{n:Nat}{u:B} (h:escape l= .ok n u):n≤1114111:=by
 cases l with
 |nil=>simp [escape] at h
 |cons c t=>
  have:=c.toNat_lt;simp only [escape] at h;split at h
  · simp at h;omega
  · split at h
    · simp at h;omega
    · split at h
      · simp at h;omega
      · split at h
        · simp at h;omega
        · split at h
          · simp at h;omega
          · split at h
            · simp at h;omega
            · split at h
              · exact code_most h
              · simp at h
def ToldC (r:Res B) (b:Nat) (s:ByteArray) (d:Nat) (w:World) (e:Ending) (w':World):Prop:=
 match r with
 | .ok bs t=>∃ n:Nat,e= .returned (.tuple #[.int .i32 (n:Int),.nilIface])∧n≤1114111∧Lib.encodeRune (n:Int)=bs∧Rd w' b s t d∧Turn b w w'
 | .err k t=>e= .returned (.tuple #[.int .i32 0,errV_j k])∧Rd w' b s t d∧Turn b w w'
theorem lt32 {l:B} (h:(nx l).toNat<32):char l= .err 3 l:=by
 cases l with
 |nil=>rfl
 |cons c t=>
  exact if_pos h
theorem char_any {w:World}{b:Nat}{s:ByteArray}{l:B}{d:Nat} (h:Rd w b s l d) (hT:Tabs w):
 Calls Tryz.prog 242 #[.pointer (some ⟨b,0,none⟩)] w fun e w'=>ToldC (char l) b s d w e w':=by
 have R0:=hid (And.intro h (Turn.refl b w));have HT0:=hid hT;clear h hT;obtain⟨X,hX⟩:∃ X:Nat,(nx l).toNat=X:=⟨_,rfl⟩;have HX:=hid hX;by_cases h32:X<32
 · have h32':(X:Int)<32:=by omega
   have HC:=hid (lt32 (l:=l) (by omega));clear hX;go_enter Tryz.func242,Tryz.ntmps242;go_wp2_with (go_at_call 193;refine(next_any R0.out.1).mono ?_;rintro e w' ⟨rfl,n,rfl⟩;rw [HX.out]);go_ret2;rw [HC.out];exact⟨rfl,R0.out.1.drewN n,R0.out.2.drewN n⟩
 · have h32':¬(X:Int)<32:=by omega
   cases l with
   |nil=>exact absurd hX (by simp [nx];omega)
   |cons c t=>
    have hc:c.toNat=X:=hX;by_cases h92:c=92
    · subst h92;obtain rfl:X=92:=by rw [←hc];rfl
      have e0:char (92::t)=(match escape t with| .err k u=>.err k u| .ok r u=>.ok (Lib.encodeRune r) u):=rfl;clear hX hc;cases he:escape t with
      |err k u=>
       have HE:=hid he;have HC:Hid (char (92::t)= .err k u):=by unfold Hid;rw [e0,he]
       clear he e0;go_enter Tryz.func242,Tryz.ntmps242;go_wp2_with (first
        |(go_at_call 193;refine(next_any R0.out.1).mono ?_;rintro e w' ⟨rfl,n,rfl⟩;rw [HX.out])
        |(go_at_call 285;(with_reducible refine(escape_any (R0.out.1.drewN n) ⟨t,rfl⟩).mono ?_);intro e w1 hq;obtain⟨rfl,hz⟩:=ToldN.no hq HE.out;have R1:=hid (And.intro hz.1 ((R0.out.2.drewN n).trans hz.2));clear hz hq))
       go_ret2;rw [HC.out];exact⟨rfl,R1.out⟩
      |ok k u=>
       have HE:=hid he;have hk:=escape_most he;have HC:Hid (char (92::t)= .ok (Lib.encodeRune k) u):=by unfold Hid;rw [e0,he]
       clear he e0;go_enter Tryz.func242,Tryz.ntmps242;go_wp2_with (first
        |(go_at_call 193;refine(next_any R0.out.1).mono ?_;rintro e w' ⟨rfl,n,rfl⟩;rw [HX.out])
        |(go_at_call 285;(with_reducible refine(escape_any (R0.out.1.drewN n) ⟨t,rfl⟩).mono ?_);intro e w1 hq;obtain⟨rfl,hz⟩:=ToldN.yes hq HE.out;have R1:=hid (And.intro hz.1 ((R0.out.2.drewN n).trans hz.2));clear hz hq))
       go_ret2;rw [HC.out];exact⟨k,rfl,hk,rfl,R1.out⟩
    · have hb:((X:Int)== 92)=false:=by
       simp only [beq_eq_false_iff_ne,ne_eq];intro e;apply h92;apply UInt8.toNat_inj.1;rw [hc];show X=92;omega
      have HN:=hid h92;have HC32:=hid (show ¬c.toNat<32 by omega);clear hX hc h92;obtain⟨p,hA⟩:=R0.out.1.at;have hm:=hA.most;have hle:=hA.le;have hlen:=hA.len;simp only [List.length_cons] at hlen;have HDrop:=hid hA.drop;have HA:=hid hA;have hud:=uni_decode (c::t) (by simp);have HDec:=hid (dec_ext hA.drop (by simp));clear hA;by_cases hu:(uni (c::t)).1=0
      · obtain⟨q1,q2⟩:=hud.1 hu;have HU:=hid hu;have HDec2:Hid (Lib.decodeGo (s.extract p s.size)=(65533,1)):=by unfold Hid;rw [HDec.out];exact Prod.ext q1 q2
        replace HDec:=HDec2;have HC:Hid (char (c::t)= .err 3 ((c::t).drop (uni (c::t)).2)):=by
         unfold Hid;simp only [char];rw [if_neg HC32.out,if_neg HN.out,if_pos HU.out]
        have hbr:=uni_broken (c::t) (by simp) hu;have HK:=hid hbr.2.2;clear hud q1 q2 hu hbr HDec2;go_enter Tryz.func242,Tryz.ntmps242;go_wp2_with (first|(go_at_call 193;refine(next_any R0.out.1).mono ?_;rintro e w' ⟨rfl,n,rfl⟩;rw [HX.out];obtain⟨W,hW⟩:∃ W,W=w.drewN n:=⟨_,rfl⟩;rw [←hW];have R1:=hid (show Rd W b s (c::t) d∧Turn b w W∧Tabs W∧At W b s (c::t) d p from by rw [hW];exact⟨R0.out.1.drewN n,R0.out.2.drewN n,Rd.tabs HT0.out (below_drew_j (Below.refl _ _) n),⟨HA.out.c0,HA.out.c1,HA.out.c2,HA.out.fz,HA.out.len,HA.out.drop,HA.out.le,HA.out.most⟩⟩);clear hW R0 HA)|fail);have H2:=hid R1.out.2.2.2.two;have HT:=hid R1.out.2.2.1;refine wp_region_noPanic ?_;refine any_begin 15 (by kernel_rfl) (by kernel_rfl) ?_;refine late_begin (fun U=>Rd2 U b s p) (fun _=>false) (H2.out.below (below_drew_j (Below.refl _ _) 1)) (fun hS=>?_);refine ltk (i:=0) (some 21) rfl rfl (v:= ?v0a) ?hy0a hS ?rest0a
        case hy0a=>intro w0 hSw;obtain⟨k0,k1⟩:=hSw;go_simp;try with_reducible rfl
        simp only [Act.put,sA,sB,sC];refine ltk (i:=1) (some 22) rfl rfl (v:= ?v1a) ?hy1a hS ?rest1a
        case hy1a=>intro w0 hSw;obtain⟨k0,k1⟩:=hSw;go_simp;try with_reducible rfl
        simp only [Act.put,sA,sB,sC];refine ltk (i:=2) (some 23) rfl rfl (v:= ?v2a) ?hy2a hS ?rest2a
        case hy2a=>intro w0 hSw;obtain⟨k0,k1⟩:=hSw;go_simp;try with_reducible rfl
        simp only [Act.put,sA,sB,sC];refine ltk (i:=3) (some 24) rfl rfl (v:= ?v3a) ?hy3a hS ?rest3a
        case hy3a=>intro w0 hSw;obtain⟨k0,k1⟩:=hSw;go_simp;try with_reducible rfl
        simp only [Act.put,sA,sB,sC];refine ltk (i:=4) (some 25) rfl rfl (v:= ?v4a) ?hy4a hS ?rest4a
        case hy4a=>intro w0 hSw;obtain⟨k0,k1⟩:=hSw;go_simp;try with_reducible rfl
        simp only [Act.put,sA,sB,sC];refine ltk (i:=5) (some 26) rfl rfl (v:= ?v5a) ?hy5a hS ?rest5a
        case hy5a=>intro w0 hSw;obtain⟨k0,k1⟩:=hSw;go_simp;try with_reducible rfl
        simp only [Act.put,sA,sB,sC];refine ltk (i:=6) (some 27) rfl rfl (v:= ?v6a) ?hy6a hS ?rest6a
        case hy6a=>intro w0 hSw;obtain⟨k0,k1⟩:=hSw;go_simp;try with_reducible rfl
        simp only [Act.put,sA,sB,sC];refine ltk (i:=7) (some 28) rfl rfl (v:= ?v7a) ?hy7a hS ?rest7a
        case hy7a=>intro w0 hSw;obtain⟨k0,k1⟩:=hSw;go_simp;try with_reducible rfl
        simp only [Act.put,sA,sB,sC];refine late_take (i:=8) (some 29) rfl rfl (by kernel_rfl) (by kernel_rfl) (by kernel_rfl) (by kernel_rfl) (by kernel_rfl) (fun _ _ _ h=>h) (by rfl) (v:=.string (s.extract p s.size)) ?hy8a hS ?rest8a
        case hy8a=>intro w0 hSw;go_simp
        simp only [Act.put,sA,sB,sC];refine wpAnyD_one (i:=9) (by kernel_rfl) rfl (fun K hK=>?_);go_simp;go_at_call 286;refine(Tryz.utf8_DecodeRuneInString _ _ (Rd.tabs HT.out (below_drew_j (Below.refl _ _) 1))).mono ?_;rintro e w1 ⟨rfl,hb1⟩;rw [HDec.out];have HB1:=hid ((below_drew_j (Below.refl _ W) 1).trans hb1);clear hb1;refine hK _ _ ⟨fun _=>H2.out.below HB1.out,?_⟩;clear hK K;replace hS:=H2.out.below HB1.out;refine ltk (i:=10) (some 20) rfl rfl (v:= ?v10a) ?hy10a hS ?rest10a
        case hy10a=>intro w0 hSw;obtain⟨k0,k1⟩:=hSw;go_simp;try with_reducible rfl
        simp only [Act.put,sA,sB,sC];refine ltk (i:=11) (some 31) rfl rfl (v:= ?v11a) ?hy11a hS ?rest11a
        case hy11a=>intro w0 hSw;obtain⟨k0,k1⟩:=hSw;go_simp;try with_reducible rfl
        simp only [Act.put,sA,sB,sC];refine ltk (i:=12) (some 32) rfl rfl (v:= ?v12a) ?hy12a hS ?rest12a
        case hy12a=>intro w0 hSw;obtain⟨k0,k1⟩:=hSw;go_simp;try with_reducible rfl
        simp only [Act.put,sA,sB,sC];refine ltk (i:=13) (some 5) rfl rfl (v:= ?v13a) ?hy13a hS ?rest13a
        case hy13a=>intro w0 hSw;obtain⟨k0,k1⟩:=hSw;go_simp;try with_reducible rfl
        simp only [Act.put,sA,sB,sC];refine ltk (i:=14) (some 6) rfl rfl (v:= ?v14a) ?hy14a hS ?rest14a
        case hy14a=>intro w0 hSw;obtain⟨k0,k1⟩:=hSw;go_simp;try with_reducible rfl
        simp only [Act.put,sA,sB,sC];refine late_done (by kernel_rfl) ?_ _;refine NoPanic.normal ?_;clear hS;have R2:=hid (show Rd w1 b s (c::t) d∧Turn b w w1∧Tabs w1 from⟨R1.out.1.below HB1.out,R1.out.2.1.trans (Turn.of_below HB1.out),Rd.tabs R1.out.2.2.1 HB1.out⟩);obtain⟨p2,hA2⟩:=R2.out.1.at;have hp2:p2=p:=by have a1:=hA2.len;have a2:=hA2.le;simp only [List.length_cons] at a1;omega
        subst hp2;have HA2:=hid hA2;clear hA2 R1 H2 HT HB1;go_wp2_with (go_at_call 287;(with_reducible refine(broken_any R2.out.2.2 (List.cons_ne_nil _ _) HU.out _ HA2.out).mono ?_);rintro e w2 ⟨rfl,hb2⟩;have R3:=hid (show Rd w2 b s (c::t) d∧Turn b w w2 from⟨R2.out.1.below hb2,R2.out.2.1.trans (Turn.of_below hb2)⟩);obtain⟨p3,hA3⟩:=R3.out.1.at;have f3:=hA3.fz 1;have d3:=hA3.c1;clear hb2 R2 hA3);go_ret2;rw [HC.out];refine⟨rfl,R3.out.1.moved _ rfl ?_ ?_,R3.out.2.setCell _ _⟩
        · have:=HK.out;simp only [List.length_cons] at this;omega
        · rw [←List.drop_drop,HDrop.out]
      · obtain⟨q1,q2⟩:=hud.2 hu;have hle2:=Lib.decodeL_le (c::t) (by simp);have hmost:=decodeL_most (c::t);have HEnc:=hid (Lib.encode_decode (c::t) (by simp) q2);have HC:Hid (char (c::t)= .ok ((c::t).take (uni (c::t)).1) ((c::t).drop (uni (c::t)).1)):=by
         unfold Hid;simp only [char];rw [if_neg HC32.out,if_neg HN.out,if_neg hu]
        rw [←q1] at HC;obtain⟨D,hD⟩:∃ D,Lib.decodeL (c::t)=D:=⟨_,rfl⟩;rw [hD] at q2 hle2 hmost HEnc HC HDec;obtain⟨Rn,K⟩:=D;simp only at q2 hle2 hmost HEnc HC;simp only [List.length_cons] at hle2;have hK2:(((Rn:Int)== 65533)=false)∨(Rn=65533∧(((K:Int)== 1)=false)):=by
         by_cases hr:Rn=65533
         · right;refine⟨hr,?_⟩;simp only [beq_eq_false_iff_ne,ne_eq];intro e;exact q2 ⟨hr,by omega⟩
         · left;simp only [beq_eq_false_iff_ne,ne_eq];omega
        clear hud q1 q2 hu hD;have hpK:Hid (s.data.toList.drop (p+K)=(c::t).drop K∧p+K≤s.size):=⟨by rw [←List.drop_drop,HDrop.out],by omega⟩;rcases hK2 with hK2|⟨rfl,hK2⟩
        · go_enter Tryz.func242,Tryz.ntmps242;go_wp2_with (first|(go_at_call 193;refine(next_any R0.out.1).mono ?_;rintro e w' ⟨rfl,n,rfl⟩;rw [HX.out];obtain⟨W,hW⟩:∃ W,W=w.drewN n:=⟨_,rfl⟩;rw [←hW];have R1:=hid (show Rd W b s (c::t) d∧Turn b w W∧Tabs W∧At W b s (c::t) d p from by rw [hW];exact⟨R0.out.1.drewN n,R0.out.2.drewN n,Rd.tabs HT0.out (below_drew_j (Below.refl _ _) n),⟨HA.out.c0,HA.out.c1,HA.out.c2,HA.out.fz,HA.out.len,HA.out.drop,HA.out.le,HA.out.most⟩⟩);clear hW R0 HA)|fail);have H2:=hid R1.out.2.2.2.two;have HT:=hid R1.out.2.2.1;refine wp_region_noPanic ?_;refine any_begin 15 (by kernel_rfl) (by kernel_rfl) ?_;refine late_begin (fun U=>Rd2 U b s p) (fun _=>false) (H2.out.below (below_drew_j (Below.refl _ _) 1)) (fun hS=>?_);refine ltk (i:=0) (some 21) rfl rfl (v:= ?v0b) ?hy0b hS ?rest0b
          case hy0b=>intro w0 hSw;obtain⟨k0,k1⟩:=hSw;go_simp;try with_reducible rfl
          simp only [Act.put,sA,sB,sC];refine ltk (i:=1) (some 22) rfl rfl (v:= ?v1b) ?hy1b hS ?rest1b
          case hy1b=>intro w0 hSw;obtain⟨k0,k1⟩:=hSw;go_simp;try with_reducible rfl
          simp only [Act.put,sA,sB,sC];refine ltk (i:=2) (some 23) rfl rfl (v:= ?v2b) ?hy2b hS ?rest2b
          case hy2b=>intro w0 hSw;obtain⟨k0,k1⟩:=hSw;go_simp;try with_reducible rfl
          simp only [Act.put,sA,sB,sC];refine ltk (i:=3) (some 24) rfl rfl (v:= ?v3b) ?hy3b hS ?rest3b
          case hy3b=>intro w0 hSw;obtain⟨k0,k1⟩:=hSw;go_simp;try with_reducible rfl
          simp only [Act.put,sA,sB,sC];refine ltk (i:=4) (some 25) rfl rfl (v:= ?v4b) ?hy4b hS ?rest4b
          case hy4b=>intro w0 hSw;obtain⟨k0,k1⟩:=hSw;go_simp;try with_reducible rfl
          simp only [Act.put,sA,sB,sC];refine ltk (i:=5) (some 26) rfl rfl (v:= ?v5b) ?hy5b hS ?rest5b
          case hy5b=>intro w0 hSw;obtain⟨k0,k1⟩:=hSw;go_simp;try with_reducible rfl
          simp only [Act.put,sA,sB,sC];refine ltk (i:=6) (some 27) rfl rfl (v:= ?v6b) ?hy6b hS ?rest6b
          case hy6b=>intro w0 hSw;obtain⟨k0,k1⟩:=hSw;go_simp;try with_reducible rfl
          simp only [Act.put,sA,sB,sC];refine ltk (i:=7) (some 28) rfl rfl (v:= ?v7b) ?hy7b hS ?rest7b
          case hy7b=>intro w0 hSw;obtain⟨k0,k1⟩:=hSw;go_simp;try with_reducible rfl
          simp only [Act.put,sA,sB,sC];refine late_take (i:=8) (some 29) rfl rfl (by kernel_rfl) (by kernel_rfl) (by kernel_rfl) (by kernel_rfl) (by kernel_rfl) (fun _ _ _ h=>h) (by rfl) (v:=.string (s.extract p s.size)) ?hy8b hS ?rest8b
          case hy8b=>intro w0 hSw;go_simp
          simp only [Act.put,sA,sB,sC];refine wpAnyD_one (i:=9) (by kernel_rfl) rfl (fun K hK=>?_);go_simp;go_at_call 286;refine(Tryz.utf8_DecodeRuneInString _ _ (Rd.tabs HT.out (below_drew_j (Below.refl _ _) 1))).mono ?_;rintro e w1 ⟨rfl,hb1⟩;rw [HDec.out];have HB1:=hid ((below_drew_j (Below.refl _ W) 1).trans hb1);clear hb1;refine hK _ _ ⟨fun _=>H2.out.below HB1.out,?_⟩;clear hK K;replace hS:=H2.out.below HB1.out;refine ltk (i:=10) (some 20) rfl rfl (v:= ?v10b) ?hy10b hS ?rest10b
          case hy10b=>intro w0 hSw;obtain⟨k0,k1⟩:=hSw;go_simp;try with_reducible rfl
          simp only [Act.put,sA,sB,sC];refine ltk (i:=11) (some 31) rfl rfl (v:= ?v11b) ?hy11b hS ?rest11b
          case hy11b=>intro w0 hSw;obtain⟨k0,k1⟩:=hSw;go_simp;try with_reducible rfl
          simp only [Act.put,sA,sB,sC];refine ltk (i:=12) (some 32) rfl rfl (v:= ?v12b) ?hy12b hS ?rest12b
          case hy12b=>intro w0 hSw;obtain⟨k0,k1⟩:=hSw;go_simp;try with_reducible rfl
          simp only [Act.put,sA,sB,sC];refine ltk (i:=13) (some 5) rfl rfl (v:= ?v13b) ?hy13b hS ?rest13b
          case hy13b=>intro w0 hSw;obtain⟨k0,k1⟩:=hSw;go_simp;try with_reducible rfl
          simp only [Act.put,sA,sB,sC];refine ltk (i:=14) (some 6) rfl rfl (v:= ?v14b) ?hy14b hS ?rest14b
          case hy14b=>intro w0 hSw;obtain⟨k0,k1⟩:=hSw;go_simp;try with_reducible rfl
          simp only [Act.put,sA,sB,sC];refine late_done (by kernel_rfl) ?_ _;refine NoPanic.normal ?_;clear hS;have R2:=hid (show Rd w1 b s (c::t) d∧Turn b w w1 from⟨R1.out.1.below HB1.out,R1.out.2.1.trans (Turn.of_below HB1.out)⟩);obtain⟨p2,hA2⟩:=R2.out.1.at;have hp2:p2=p:=by have a1:=hA2.len;have a2:=hA2.le;simp only [List.length_cons] at a1;omega
          subst hp2;have f3:=hA2.fz 1;have d3:=hA2.c1;clear hA2 R1 H2 HT HB1;go_wp2;go_ret2;rw [HC.out];exact⟨_,rfl,hmost,HEnc.out,R2.out.1.moved _ (by push_cast;rfl) hpK.out.2 hpK.out.1,R2.out.2.setCell _ _⟩
        · go_enter Tryz.func242,Tryz.ntmps242;go_wp2_with (first|(go_at_call 193;refine(next_any R0.out.1).mono ?_;rintro e w' ⟨rfl,n,rfl⟩;rw [HX.out];obtain⟨W,hW⟩:∃ W,W=w.drewN n:=⟨_,rfl⟩;rw [←hW];have R1:=hid (show Rd W b s (c::t) d∧Turn b w W∧Tabs W∧At W b s (c::t) d p from by rw [hW];exact⟨R0.out.1.drewN n,R0.out.2.drewN n,Rd.tabs HT0.out (below_drew_j (Below.refl _ _) n),⟨HA.out.c0,HA.out.c1,HA.out.c2,HA.out.fz,HA.out.len,HA.out.drop,HA.out.le,HA.out.most⟩⟩);clear hW R0 HA)|fail);have H2:=hid R1.out.2.2.2.two;have HT:=hid R1.out.2.2.1;refine wp_region_noPanic ?_;refine any_begin 15 (by kernel_rfl) (by kernel_rfl) ?_;refine late_begin (fun U=>Rd2 U b s p) (fun _=>false) (H2.out.below (below_drew_j (Below.refl _ _) 1)) (fun hS=>?_);refine ltk (i:=0) (some 21) rfl rfl (v:= ?v0c) ?hy0c hS ?rest0c
          case hy0c=>intro w0 hSw;obtain⟨k0,k1⟩:=hSw;go_simp;try with_reducible rfl
          simp only [Act.put,sA,sB,sC];refine ltk (i:=1) (some 22) rfl rfl (v:= ?v1c) ?hy1c hS ?rest1c
          case hy1c=>intro w0 hSw;obtain⟨k0,k1⟩:=hSw;go_simp;try with_reducible rfl
          simp only [Act.put,sA,sB,sC];refine ltk (i:=2) (some 23) rfl rfl (v:= ?v2c) ?hy2c hS ?rest2c
          case hy2c=>intro w0 hSw;obtain⟨k0,k1⟩:=hSw;go_simp;try with_reducible rfl
          simp only [Act.put,sA,sB,sC];refine ltk (i:=3) (some 24) rfl rfl (v:= ?v3c) ?hy3c hS ?rest3c
          case hy3c=>intro w0 hSw;obtain⟨k0,k1⟩:=hSw;go_simp;try with_reducible rfl
          simp only [Act.put,sA,sB,sC];refine ltk (i:=4) (some 25) rfl rfl (v:= ?v4c) ?hy4c hS ?rest4c
          case hy4c=>intro w0 hSw;obtain⟨k0,k1⟩:=hSw;go_simp;try with_reducible rfl
          simp only [Act.put,sA,sB,sC];refine ltk (i:=5) (some 26) rfl rfl (v:= ?v5c) ?hy5c hS ?rest5c
          case hy5c=>intro w0 hSw;obtain⟨k0,k1⟩:=hSw;go_simp;try with_reducible rfl
          simp only [Act.put,sA,sB,sC];refine ltk (i:=6) (some 27) rfl rfl (v:= ?v6c) ?hy6c hS ?rest6c
          case hy6c=>intro w0 hSw;obtain⟨k0,k1⟩:=hSw;go_simp;try with_reducible rfl
          simp only [Act.put,sA,sB,sC];refine ltk (i:=7) (some 28) rfl rfl (v:= ?v7c) ?hy7c hS ?rest7c
          case hy7c=>intro w0 hSw;obtain⟨k0,k1⟩:=hSw;go_simp;try with_reducible rfl
          simp only [Act.put,sA,sB,sC];refine late_take (i:=8) (some 29) rfl rfl (by kernel_rfl) (by kernel_rfl) (by kernel_rfl) (by kernel_rfl) (by kernel_rfl) (fun _ _ _ h=>h) (by rfl) (v:=.string (s.extract p s.size)) ?hy8c hS ?rest8c
          case hy8c=>intro w0 hSw;go_simp
          simp only [Act.put,sA,sB,sC];refine wpAnyD_one (i:=9) (by kernel_rfl) rfl (fun K hK=>?_);go_simp;go_at_call 286;refine(Tryz.utf8_DecodeRuneInString _ _ (Rd.tabs HT.out (below_drew_j (Below.refl _ _) 1))).mono ?_;rintro e w1 ⟨rfl,hb1⟩;rw [HDec.out];have HB1:=hid ((below_drew_j (Below.refl _ W) 1).trans hb1);clear hb1;refine hK _ _ ⟨fun _=>H2.out.below HB1.out,?_⟩;clear hK K;replace hS:=H2.out.below HB1.out;refine ltk (i:=10) (some 20) rfl rfl (v:= ?v10c) ?hy10c hS ?rest10c
          case hy10c=>intro w0 hSw;obtain⟨k0,k1⟩:=hSw;go_simp;try with_reducible rfl
          simp only [Act.put,sA,sB,sC];refine ltk (i:=11) (some 31) rfl rfl (v:= ?v11c) ?hy11c hS ?rest11c
          case hy11c=>intro w0 hSw;obtain⟨k0,k1⟩:=hSw;go_simp;try with_reducible rfl
          simp only [Act.put,sA,sB,sC];refine ltk (i:=12) (some 32) rfl rfl (v:= ?v12c) ?hy12c hS ?rest12c
          case hy12c=>intro w0 hSw;obtain⟨k0,k1⟩:=hSw;go_simp;try with_reducible rfl
          simp only [Act.put,sA,sB,sC];refine ltk (i:=13) (some 5) rfl rfl (v:= ?v13c) ?hy13c hS ?rest13c
          case hy13c=>intro w0 hSw;obtain⟨k0,k1⟩:=hSw;go_simp;try with_reducible rfl
          simp only [Act.put,sA,sB,sC];refine ltk (i:=14) (some 6) rfl rfl (v:= ?v14c) ?hy14c hS ?rest14c
          case hy14c=>intro w0 hSw;obtain⟨k0,k1⟩:=hSw;go_simp;try with_reducible rfl
          simp only [Act.put,sA,sB,sC];refine late_done (by kernel_rfl) ?_ _;refine NoPanic.normal ?_;clear hS;have R2:=hid (show Rd w1 b s (c::t) d∧Turn b w w1 from⟨R1.out.1.below HB1.out,R1.out.2.1.trans (Turn.of_below HB1.out)⟩);obtain⟨p2,hA2⟩:=R2.out.1.at;have hp2:p2=p:=by have a1:=hA2.len;have a2:=hA2.le;simp only [List.length_cons] at a1;omega
          subst hp2;have f3:=hA2.fz 1;have d3:=hA2.c1;clear hA2 R1 H2 HT HB1;go_wp2;go_ret2;rw [HC.out];exact⟨_,rfl,hmost,HEnc.out,R2.out.1.moved _ (by push_cast;rfl) hpK.out.2 hpK.out.1,R2.out.2.setCell _ _⟩
end Go.Proofs.YtlmefgjhbohjlaaGreatDoor
